/-
  valid.Is: of no module; of a fit one without functions.
-/
import Derived.Test.YtahbnhhdpcieiaaGreatDoorEc
import Derived.RangeFuncNested
import Derived.RangeFuncBound
import Derived.RangeFuncCalls
import Derived.RangeFuncLeaves
import Derived.OrdersIn
import Derived.OrdersHeld
import Derived.Deep.RegionHeld
import Derived.Shelf.Abstract
import Derived.OwnWalkIn
import Derived.TacticsInMore
import Derived.LoopNIn
import Derived.LoopIn
namespace Go.Proofs.YtahbnhhdpcieiaaGreatDoor
open Go.RowKit Go.Shelf
set_option linter.unusedVariables false
set_option linter.unusedSimpArgs false
theorem Fr.putObj {S : Nat → Prop} {w w' : World} {l : Nat} (o : Obj) (h : Fr S w w') (hl : S l) : Fr S w (w'.putObj l o) :=
  h.trans ⟨(grownBy_putObj' w' l o).os, (grownBy_putObj' w' l o).tape, (grownBy_putObj' w' l o).output, (grownBy_putObj' w' l o).size, fun k hk hs => (grownBy_putObj' w' l o).block k hk (fun e => hs (by cases e; exact hl))⟩
/-- a range over findings that hands nothing to any round -/
theorem range_none {g : Operand} {ps : Array Tmp} {assign body : Code} {Q : Exit → Act → World → Prop} {a : Act} {w : World} (N m b : Nat) (hN : N = m + 1 + 1)
    (hg : a.eval g = .func (.func 138) #[] #[.pointer (some ⟨b, 0, none⟩)])
    (hit : ∀ l W, Below w.heap.size w W → Calls Tryz.prog 138 #[.func (.yield l) #[] #[], .pointer (some ⟨b, 0, none⟩)] W fun e W' => (∃ v, e = .returned v) ∧ Below W.heap.size W W')
    (hdone : ∀ W, Below w.heap.size w W → W.heap[w.heap.size]? = some (.deferred (some [])) → Q .normal { a with defers := { target := .collected w.heap.size, args := #[] } :: a.defers } W) :
    (Code.rangeFunc g ps assign body).wpIn Fence.wide N Tryz.prog Q a w := by
  subst hN
  refine wpIn_rangeFunc ?_
  intro fn _
  obtain ⟨D, hD⟩ : ∃ D, D = w.heap.size := ⟨_, rfl⟩
  obtain ⟨rec, hrec⟩ : ∃ rec : LoopState → Loop, rec = fun st => { state := st, pending := none, fn, tmps := a.tmps, params := ps, assign, body, defers := w.heap.size } := ⟨_, rfl⟩
  obtain ⟨W1, hW1⟩ : ∃ W1, (w.alloc (.deferred (some []))).alloc (.loop (rec .ready)) = W1 := ⟨_, rfl⟩
  have hL1 : W1.heap[D + 1]? = some (.loop (rec .ready)) := by
    rw [← hW1, hD]; have := World.alloc_heap_new (w.alloc (.deferred (some []))) (.loop (rec .ready)); rwa [World.size_alloc] at this
  have hK1 : W1.heap[D]? = some (.deferred (some [])) := by
    rw [← hW1, hD]; exact (Below.heap_alloc _ _ _ (by simp)).trans (World.alloc_heap_new w _)
  have hB1 : Below w.heap.size w W1 := by rw [← hW1]; exact ((Below.refl _ w).alloc (Nat.le_refl _) _).alloc (by simp) _
  have hs1 : W1.heap.size = D + 2 := by rw [← hW1, World.size_alloc, World.size_alloc, hD]
  refine ⟨D + 1, [{ target := .collected D, args := #[] }], W1, { target := .fn (.func 138) #[.pointer (some ⟨b, 0, none⟩)], args := #[.func (.yield (D + 1)) #[] #[]] }, W1, 138,
    #[.func (.yield (D + 1)) #[] #[]] ++ #[.pointer (some ⟨b, 0, none⟩)], W1, ?_, ?_, ?_, ?_, fun e => (by cases e), ?_⟩
  · rw [← hW1, hrec, hD]; exact run_enterLoop_outer _ _ _ _ _
  · simp only [resolve, hg]
    simp [go_sem]
  · intro f' _; trivial
  · have eg : ∀ args w, (callFunc 138 args).run Tryz.prog w = .ok (.enter 138 args) w := enters_of Tryz.func138 (by kernel_rfl) rfl
    simp [invoke, go_sem, eg]
  · rw [← hD] at hdone
    refine CallsIn.mono (callsIn_wide.2 (hit (D + 1) W1 hB1)) ?_
    rintro e W2 ⟨⟨v, rfl⟩, hB2⟩
    have hl : W2.heap[D + 1]? = some (.loop (rec .ready)) := (hB2.block _ (by omega)).trans hL1
    have hk : W2.heap[D]? = some (.deferred (some [])) := (hB2.block _ (by omega)).trans hK1
    refine ⟨none, W2.putObj (D + 1) (.loop { rec .ready with state := .exhausted }), ?_, ?_⟩
    · have := run_endLoop (P := Tryz.prog) hl (by rw [hrec]; simp)
      rw [hrec] at this ⊢
      exact this
    · have hf : Fr (fun q => q = D + 1) W2 (W2.putObj (D + 1) (.loop { rec .ready with state := .exhausted })) := (Fr.refl _ W2).putObj _ rfl
      have hb2 := hB1.trans (hB2.mono hB1.size)
      rw [← hD] at hb2
      refine hdone _ ?_ ((World.putObj_heap_other (by omega)).trans hk)
      exact hf.below (B := D) hb2 (by have := hB2.size; omega) (fun k hk => by omega)
/-- a range over findings that hands one thing to a round, which returns -/
theorem range_one {g : Operand} {ps : Array Tmp} {assign body : Code} {Q : Exit → Act → World → Prop} {a : Act} {w : World} (N m b : Nat) (hN : N = m + 1 + 1) (v0 : Value) (cs : Array Value)
    (hg : a.eval g = .func (.func 138) #[] #[.pointer (some ⟨b, 0, none⟩)]) (hps : ps.size = 1)
    (X : World → Prop) (hsX : ∀ W W', X W → Fr (fun q => q = w.heap.size ∨ q = w.heap.size + 1) W W' → X W') (act : Nat → Act)
    (hit : ∀ l W (R : World → Prop), Below w.heap.size w W → YieldAt Fence.wide m Tryz.prog l #[v0] W (fun e W' => e = .returned (.bool false) ∧ R W') → CallsIn Fence.wide (m + 1) Tryz.prog 138 #[.func (.yield l) #[] #[], .pointer (some ⟨b, 0, none⟩)] W fun e W' => (∃ v, e = .returned v) ∧ R W')
    (hassign : ∀ W K, Below w.heap.size w W → K (act W.heap.size) (W.alloc (.cells cs 183)) → assign.wpIn (Fence.wide.inRound (w.heap.size + 1)) m Tryz.prog (Exit.then K (fun _ _ _ => False)) { tmps := (ps.zip #[v0]).foldl (fun t (p, v) => t.setIfInBounds p v) a.tmps, defers := [] } W)
    (hbody : ∀ W, Below w.heap.size w W → W.heap.size = w.heap.size + 3 → Blk W (w.heap.size + 2) 183 cs → body.wpIn (Fence.wide.inRound (w.heap.size + 1)) m Tryz.prog (fun e a' W' => e = .ret ∧ X W' ∧ (∀ q, q = w.heap.size ∨ q = w.heap.size + 1 → W'.heap[q]? = W.heap[q]?) ∧ W.heap.size ≤ W'.heap.size) (act (w.heap.size + 2)) W)
    (hstop : ∀ W, X W → W.heap[w.heap.size]? = some (.deferred (some [])) → Code.ret.wpIn Fence.wide N Tryz.prog Q { a with defers := { target := .collected w.heap.size, args := #[] } :: a.defers } W) :
    (Code.rangeFunc g ps assign body).wpIn Fence.wide N Tryz.prog Q a w := by
  subst hN
  refine wpIn_rangeFunc ?_
  intro fn _
  obtain ⟨D, hD⟩ : ∃ D, D = w.heap.size := ⟨_, rfl⟩
  obtain ⟨rec, hrec⟩ : ∃ rec : LoopState → Option Code → Loop, rec = fun st pe => { state := st, pending := pe, fn, tmps := a.tmps, params := ps, assign, body, defers := w.heap.size } := ⟨_, rfl⟩
  obtain ⟨W1, hW1⟩ : ∃ W1, (w.alloc (.deferred (some []))).alloc (.loop (rec .ready none)) = W1 := ⟨_, rfl⟩
  have hL1 : W1.heap[D + 1]? = some (.loop (rec .ready none)) := by
    rw [← hW1, hD]; have := World.alloc_heap_new (w.alloc (.deferred (some []))) (.loop (rec .ready none)); rwa [World.size_alloc] at this
  have hK1 : W1.heap[D]? = some (.deferred (some [])) := by
    rw [← hW1, hD]; exact (Below.heap_alloc _ _ _ (by simp)).trans (World.alloc_heap_new w _)
  have hB1 : Below w.heap.size w W1 := by rw [← hW1]; exact ((Below.refl _ w).alloc (Nat.le_refl _) _).alloc (by simp) _
  have hs1 : W1.heap.size = D + 2 := by rw [← hW1, World.size_alloc, World.size_alloc, hD]
  refine ⟨D + 1, [{ target := .collected D, args := #[] }], W1, { target := .fn (.func 138) #[.pointer (some ⟨b, 0, none⟩)], args := #[.func (.yield (D + 1)) #[] #[]] }, W1, 138,
    #[.func (.yield (D + 1)) #[] #[]] ++ #[.pointer (some ⟨b, 0, none⟩)], W1, ?_, ?_, ?_, ?_, fun e => (by cases e), ?_⟩
  · rw [← hW1, hrec, hD]; exact run_enterLoop_outer _ _ _ _ _
  · simp only [resolve, hg]
    simp [go_sem]
  · intro f' _; trivial
  · have eg : ∀ args w, (callFunc 138 args).run Tryz.prog w = .ok (.enter 138 args) w := enters_of Tryz.func138 (by kernel_rfl) rfl
    simp [invoke, go_sem, eg]
  · rw [← hD] at hstop hassign hbody hsX hB1 hit
    have hrd : YieldAt Fence.wide m Tryz.prog (D + 1) #[v0] W1 fun e W' => e = .returned (.bool false) ∧ (X W' ∧ W'.heap[D]? = some (.deferred (some [])) ∧ D + 2 ≤ W'.heap.size ∧ W'.heap[D + 1]? = some (.loop (rec .done (some .ret)))) := by
      have hy := run_yield (P := Tryz.prog) (args := #[v0]) hL1 (by rw [hrec, hps]; rfl)
      rw [hrec] at hy
      refine ⟨fn, _, assign, body, hy, roundIn_of_wpIn trivial (hassign W1 _ hB1 ?_)⟩
      have hla : (W1.alloc (.cells cs 183)).heap[D + 1]? = some (.loop (rec .ready none)) := (Below.heap_alloc _ _ _ (by omega)).trans hL1
      refine ⟨_, run_beginRound hla (by rw [hrec]), ?_⟩
      obtain ⟨Wb, hWb⟩ : ∃ Wb, Wb = (W1.alloc (.cells cs 183)).putObj (D + 1) (.loop { rec .ready none with state := .busy }) := ⟨_, rfl⟩
      rw [← hWb]
      have hlt1 : D + 1 < (W1.alloc (.cells cs 183)).heap.size := by rw [World.size_alloc]; omega
      have hfb : Fr (fun q => q = D + 1) (W1.alloc (.cells cs 183)) Wb := by rw [hWb]; exact (Fr.refl _ _).putObj _ rfl
      have hlb : Wb.heap[D + 1]? = some (.loop { rec .ready none with state := .busy }) := by rw [hWb]; exact World.putObj_heap_same hlt1
      have hkb : Wb.heap[D]? = some (.deferred (some [])) := by rw [hWb]; exact (World.putObj_heap_other (by omega)).trans ((Below.heap_alloc _ _ _ (by omega)).trans hK1)
      have hsb : Wb.heap.size = D + 3 := by rw [hWb]; simp; omega
      have hbb : Blk Wb (D + 2) 183 cs := by
        have h1 := Blk.new W1 183 cs
        rw [hs1] at h1
        exact h1.fr hfb (fun e => by omega)
      have hBb : Below D w Wb := hfb.below (hB1.alloc (by omega) _) (by rw [World.size_alloc]; omega) (fun k hk => by omega)
      rw [hs1]
      refine wpIn_mono (hbody Wb hBb hsb hbb) ?_
      rintro e a3 W3 ⟨rfl, hx3, hkp, hs3⟩
      have hl3 : W3.heap[D + 1]? = some (.loop { rec .ready none with state := .busy }) := (hkp _ (.inr rfl)).trans hlb
      have hend := run_endRound (P := Tryz.prog) (some .ret) hl3
      rw [hrec] at hend
      have hlt3 : D + 1 < W3.heap.size := by omega
      refine ⟨.bool false, _, hend, rfl, hsX _ _ hx3 ((Fr.refl _ W3).putObj _ (.inr rfl)), (World.putObj_heap_other (by omega)).trans ((hkp _ (.inl rfl)).trans hkb), by simp; omega, ?_⟩
      rw [hrec]; exact World.putObj_heap_same hlt3
    refine CallsIn.mono (hit (D + 1) W1 _ hB1 hrd) ?_
    rintro e W2 ⟨⟨v, rfl⟩, hx, hk, hs, hl⟩
    refine ⟨some .ret, W2.putObj (D + 1) (.loop { rec .done (some .ret) with state := .exhausted }), ?_, ?_⟩
    · have := run_endLoop (P := Tryz.prog) hl (by rw [hrec]; simp)
      rw [hrec] at this ⊢
      exact this
    · have hf : Fr (fun q => q = D ∨ q = D + 1) W2 (W2.putObj (D + 1) (.loop { rec .done (some .ret) with state := .exhausted })) := (Fr.refl _ W2).putObj _ (.inr rfl)
      exact hstop _ (hsX _ _ hx hf) ((World.putObj_heap_other (by omega)).trans hk)
end Go.Proofs.YtahbnhhdpcieiaaGreatDoor
