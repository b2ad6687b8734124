/-
  'for x := range m.parts(place, n)' whose rounds go on: what holds before and behind each.
-/
import Derived.Test.YtlnffcledpccjaaRb
namespace Go.Proofs.Ytlnffcledpccjaa
open Go.RowKit Go.Shelf
set_option linter.unusedVariables false
def prtC (place n sz fr : Nat) : Array Value := #[.int .i64 ((place + fr) / sz : Nat), .int .i64 ((place + fr) % sz : Nat), .int .i64 (fr : Nat), .int .i64 (nxt place n sz fr : Nat)]
theorem Fr.putObj {S : Nat → Prop} {w w' : World} {l : Nat} (o : Obj) (h : Fr S w w') (hl : S l) : Fr S w (w'.putObj l o) :=
  h.trans ⟨(grownBy_putObj' w' l o).os, (grownBy_putObj' w' l o).tape, (grownBy_putObj' w' l o).output, (grownBy_putObj' w' l o).size, fun k hk hs => (grownBy_putObj' w' l o).block k hk (fun e => hs (by cases e; exact hl))⟩
theorem parts_range {g : Operand} {ps : Array Tmp} {assign body : Code} {Q : Exit → Act → World → Prop} {a : Act} {w : World} (N m Bm Bn Bp M pg sz n place : Nat) (hN : N = m + 1 + 1)
    (hg : a.eval g = .func (.func 73) #[] #[.pointer (some ⟨Bm, 0, none⟩), .pointer (some ⟨Bn, 0, none⟩), .pointer (some ⟨Bp, 0, none⟩)]) (hps : ps.size = 1)
    (hsz : 16 ≤ sz) (hsz2 : sz ≤ 1024) (hn : n ≤ 4611686018427387904) (hpl : place + n ≤ 4611686018427387904) (hBp : Bp < w.heap.size)
    (I : Nat → World → Prop) (act : Nat → Nat → Act)
    (hst : ∀ k W W', I k W → Fr (fun q => q = Bp ∨ q = w.heap.size ∨ q = w.heap.size + 1) W W' → I k W')
    (hc : ∀ k W, I k W → W.cell? ⟨Bm, 0, none⟩ = some (.pointer (some ⟨M, 0, none⟩)) ∧ W.cell? ⟨M, 0, none⟩ = some (.pointer (some ⟨pg, 0, none⟩)) ∧ W.cell? ⟨Bn, 0, none⟩ = some (.int .i64 n) ∧ Calls Try.prog 54 #[.pointer (some ⟨pg, 0, none⟩)] W fun e w' => e = .returned (.int .i64 sz) ∧ W = w')
    (h0 : I 0 w) (hb : Blk w Bp 56 #[.int .u64 (place : Nat)])
    (hassign : ∀ fr W K, I fr W → (∀ W1, Fr (fun _ => False) W W1 → Blk W1 W.heap.size 130 (prtC place n sz fr) → W1.heap.size = W.heap.size + 1 → K (act fr W.heap.size) W1) →
      assign.wpIn (Fence.wide.inRound (w.heap.size + 1)) m Try.prog (Exit.then K (fun _ _ _ => False)) { tmps := (ps.zip #[prt place n sz fr]).foldl (fun t (p, v) => t.setIfInBounds p v) a.tmps, defers := [] } W)
    (hbody : ∀ fr bx W0 W, fr < n → I fr W0 → bx = W0.heap.size → w.heap.size + 2 ≤ bx → Fr (fun q => q = w.heap.size + 1) W0 W → W.heap.size = bx + 1 → Blk W bx 130 (prtC place n sz fr) →
      body.wpIn (Fence.wide.inRound (w.heap.size + 1)) m Try.prog (fun e a' W' => e = .normal ∧ I (nxt place n sz fr) W' ∧ (∀ q, (q = Bp ∨ q = w.heap.size ∨ q = w.heap.size + 1) → W'.heap[q]? = W.heap[q]?) ∧ W.heap.size ≤ W'.heap.size) (act fr bx) W)
    (hdone : ∀ W, I n W → W.heap[w.heap.size]? = some (.deferred (some [])) → w.heap.size + 2 ≤ W.heap.size → Q .normal { a with defers := { target := .collected w.heap.size, args := #[] } :: a.defers } W) :
    (Code.rangeFunc g ps assign body).wpIn Fence.wide N Try.prog Q a w := by
  subst hN
  refine wpIn_rangeFunc ?_
  intro fn _
  obtain ⟨D, hD⟩ : ∃ D, D = w.heap.size := ⟨_, rfl⟩
  obtain ⟨rec, hrec⟩ : ∃ rec : LoopState → Loop, rec = fun st => { state := st, pending := none, fn, tmps := a.tmps, params := ps, assign, body, defers := w.heap.size } := ⟨_, rfl⟩
  obtain ⟨W1, hW1⟩ : ∃ W1, (w.alloc (.deferred (some []))).alloc (.loop (rec .ready)) = W1 := ⟨_, rfl⟩
  have hL1 : W1.heap[D + 1]? = some (.loop (rec .ready)) := by
    rw [← hW1, hD]; have := World.alloc_heap_new (w.alloc (.deferred (some []))) (.loop (rec .ready)); rwa [World.size_alloc] at this
  have hK1 : W1.heap[D]? = some (.deferred (some [])) := by
    rw [← hW1, hD]; exact (Below.heap_alloc _ _ _ (by simp)).trans (World.alloc_heap_new w _)
  have hF1 : ∀ S, Fr S w W1 := fun S => by rw [← hW1]; exact ((Fr.refl S w).alloc _).alloc _
  have hs1 : D + 2 ≤ W1.heap.size := by rw [← hW1, World.size_alloc, World.size_alloc]; omega
  refine ⟨D + 1, [{ target := .collected D, args := #[] }], W1, { target := .fn (.func 73) #[.pointer (some ⟨Bm, 0, none⟩), .pointer (some ⟨Bn, 0, none⟩), .pointer (some ⟨Bp, 0, none⟩)], args := #[.func (.yield (D + 1)) #[] #[]] }, W1, 73,
    #[.func (.yield (D + 1)) #[] #[]] ++ #[.pointer (some ⟨Bm, 0, none⟩), .pointer (some ⟨Bn, 0, none⟩), .pointer (some ⟨Bp, 0, none⟩)], W1, ?_, ?_, ?_, ?_, fun e => (by cases e), ?_⟩
  · rw [← hW1, hrec, hD]; exact run_enterLoop_outer _ _ _ _ _
  · simp only [resolve, hg]
    simp [go_sem]
  · intro f' _; trivial
  · have eg : ∀ args w, (callFunc 73 args).run Try.prog w = .ok (.enter 73 args) w := enters_of Try.func73 (by kernel_rfl) rfl
    simp [invoke, go_sem, eg]
  · rw [← hD] at hst hassign hbody hdone
    have hDp : Bp < D := by rw [hD]; exact hBp
    have hit := parts_it m (D + 1) Bm Bn Bp M pg sz n place (fun k W => I k W ∧ W.heap[D + 1]? = some (.loop (rec .ready)) ∧ W.heap[D]? = some (.deferred (some [])) ∧ D + 2 ≤ W.heap.size) hsz hsz2 hn hpl
      (fun k W v hJ => by
        obtain ⟨hi, hl, hk, hs⟩ := hJ
        have hf : Fr (· = Bp) W (W.setCell ⟨Bp, 0, none⟩ v) := (Fr.refl (· = Bp) W).set_ (p := ⟨Bp, 0, none⟩) rfl v
        exact ⟨hst k _ _ hi (hf.more (fun q hq => .inl hq)), (hf.block _ (by omega) (fun e => by omega)).trans hl, (hf.block _ (by omega) (fun e => by omega)).trans hk, Nat.le_trans hs hf.size⟩)
      (fun k W hJ => hc k W hJ.1) ?_ W1 ⟨hst 0 _ _ h0 (hF1 _), hL1, hK1, hs1⟩ (hb.fr (hF1 (fun _ => False)) (fun q => q))
    · refine CallsIn.mono hit ?_
      rintro e W2 ⟨⟨v, rfl⟩, hi, hl, hk, hs⟩
      refine ⟨none, W2.putObj (D + 1) (.loop { rec .ready with state := .exhausted }), ?_, ?_⟩
      · have := run_endLoop (P := Try.prog) hl (by rw [hrec]; simp)
        rw [hrec] at this ⊢
        exact this
      · have hf : Fr (fun q => q = Bp ∨ q = D ∨ q = D + 1) W2 (W2.putObj (D + 1) (.loop { rec .ready with state := .exhausted })) := (Fr.refl _ W2).putObj _ (.inr (.inr rfl))
        exact hdone _ (hst n _ _ hi hf) ((World.putObj_heap_other (by omega)).trans hk) (Nat.le_trans hs hf.size)
    · -- one round
      intro fr W hfr hJ hB
      obtain ⟨hi, hl, hk, hs⟩ := hJ
      have hy := run_yield (P := Try.prog) (args := #[prt place n sz fr]) hl (by rw [hrec, hps]; rfl)
      rw [hrec] at hy
      refine ⟨fn, _, assign, body, hy, roundIn_of_wpIn trivial (hassign fr W _ hi ?_)⟩
      intro Wa hfa hbx hsa
      have hla : Wa.heap[D + 1]? = some (.loop (rec .ready)) := (hfa.block _ (by omega) (fun q => q)).trans hl
      refine ⟨_, run_beginRound hla (by rw [hrec]), ?_⟩
      obtain ⟨Wb, hWb⟩ : ∃ Wb, Wb = Wa.putObj (D + 1) (.loop { rec .ready with state := .busy }) := ⟨_, rfl⟩
      rw [← hWb]
      have hfb : Fr (fun q => q = D + 1) Wa Wb := by rw [hWb]; exact (Fr.refl _ Wa).putObj _ rfl
      have hlb : Wb.heap[D + 1]? = some (.loop { rec .ready with state := .busy }) := by rw [hWb]; exact World.putObj_heap_same (by omega)
      have hsb : Wb.heap.size = W.heap.size + 1 := by rw [hWb, ← hsa]; simp
      refine wpIn_mono (hbody fr W.heap.size W Wb hfr hi rfl hs ((hfa.more (fun q hq => hq.elim)).trans hfb) hsb (hbx.fr hfb (fun e => by omega))) ?_
      rintro e a3 W3 ⟨rfl, hi3, hkp, hs3⟩
      have hl3 : W3.heap[D + 1]? = some (.loop { rec .ready with state := .busy }) := (hkp _ (.inr (.inr rfl))).trans hlb
      have hend := run_endRound (P := Try.prog) none hl3
      have hD3 : W3.heap[D]? = some (.deferred (some [])) := (hkp _ (.inr (.inl rfl))).trans ((hfb.block _ (by omega) (fun e => by omega)).trans ((hfa.block _ (by omega) (fun q => q)).trans hk))
      have hb3 : Blk W3 Bp 56 #[.int .u64 (place + fr : Nat)] := (hkp _ (.inl rfl)).trans ((hfb.block _ (by omega) (fun e => by omega)).trans ((hfa.block _ (by omega) (fun q => q)).trans hB))
      obtain ⟨W4, hW4⟩ : ∃ W4, W4 = W3.putObj (D + 1) (.loop (rec .ready)) := ⟨_, rfl⟩
      have hf4 : Fr (fun q => q = Bp ∨ q = D ∨ q = D + 1) W3 W4 := by rw [hW4]; exact (Fr.refl _ W3).putObj _ (.inr (.inr rfl))
      have hf4' : Fr (fun q => q = D + 1) W3 W4 := by rw [hW4]; exact (Fr.refl _ W3).putObj _ rfl
      have hlt3 : D + 1 < W3.heap.size := by omega
      refine ⟨.bool true, W4, ?_, rfl, ⟨hst _ _ _ hi3 hf4, ?_, ?_, ?_⟩, ?_⟩
      · rw [hW4]
        rw [hrec] at hend ⊢
        exact hend
      · rw [hW4]; exact World.putObj_heap_same hlt3
      · exact (hf4'.block _ (by omega) (fun e => by omega)).trans hD3
      · have := hf4.size; omega
      · exact (hf4'.block _ (by omega) (fun e => by omega)).trans hb3
end Go.Proofs.Ytlnffcledpccjaa
