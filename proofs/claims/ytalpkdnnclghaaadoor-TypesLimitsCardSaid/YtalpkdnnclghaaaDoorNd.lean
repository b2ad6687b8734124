/-
  'for x := range strings.SplitSeq(s, ",")', whose rounds go on or return: what holds before and behind each.
-/
import Derived.Test.YtalpkdnnclghaaaDoorNc
namespace Go.Proofs.YtalpkdnnclghaaaDoor
open Go.RowKit Go.Shelf
set_option linter.unusedVariables false
/-- the piece that comes next, and what is left behind it -/
def pc (r : List UInt8) : ByteArray := if 0 ≤ cm r then ⟨(r.take (cm r).toNat).toArray⟩ else ⟨r.toArray⟩
def nx (r : List UInt8) : Option (List UInt8) := if 0 ≤ cm r then some (r.drop ((cm r).toNat + 1)) else none
def XS (B0 q : Nat) : Prop := B0 ≤ q ∧ q < B0 + 5
theorem Fr.putObj {S : Nat → Prop} {w w' : World} {l : Nat} (o : Obj) (h : Fr S w w') (hl : S l) : Fr S w (w'.putObj l o) :=
  h.trans ⟨(grownBy_putObj' w' l o).os, (grownBy_putObj' w' l o).tape, (grownBy_putObj' w' l o).output, (grownBy_putObj' w' l o).size, fun k hk hs => (grownBy_putObj' w' l o).block k hk (fun e => hs (by cases e; exact hl))⟩
theorem split_range {g : Operand} {ps : Array Tmp} {assign body : Code} {Q : Exit → Act → World → Prop} {a : Act} {w : World} (N m B0 : Nat) (s0 : List UInt8) (hN : N = m + 1 + 1) (hlen : s0.length ≤ 4611686018427387904)
    (hg : a.eval g = .func (.func 91) #[] #[.pointer (some ⟨B0 + 1, 0, none⟩), .pointer (some ⟨B0, 0, none⟩), .pointer (some ⟨B0 + 2, 0, none⟩)]) (hps : ps.size = 1) (hw : w.heap.size = B0 + 3)
    (I : Option (List UInt8) → World → Prop) (X : World → Prop) (act : ByteArray → Act)
    (hst : ∀ x W W', I x W → Fr (XS B0) W W' → I x W') (hsX : ∀ W W', X W → Fr (XS B0) W W' → X W')
    (h0 : I (some s0) w) (hbs : Blk w B0 9 #[.string ⟨s0.toArray⟩]) (hbp : Blk w (B0 + 1) 9 #[.string ⟨#[44]⟩]) (hbz : Blk w (B0 + 2) 3 #[.int .i64 0])
    (hassign : ∀ p W K, K (act p) W → assign.wpIn (Fence.wide.inRound (B0 + 4)) m Tryd.prog (Exit.then K (fun _ _ _ => False)) { tmps := (ps.zip #[Value.string p]).foldl (fun t (p, v) => t.setIfInBounds p v) a.tmps, defers := [] } W)
    (hbody : ∀ r W, I (some r) W → B0 + 5 ≤ W.heap.size → body.wpIn (Fence.wide.inRound (B0 + 4)) m Tryd.prog (fun e a' W' => ((e = .normal ∧ I (nx r) W') ∨ (e = .ret ∧ X W')) ∧ (∀ q, XS B0 q → W'.heap[q]? = W.heap[q]?) ∧ W.heap.size ≤ W'.heap.size) (act (pc r)) W)
    (hdone : ∀ W, I none W → W.heap[B0 + 3]? = some (.deferred (some [])) → B0 + 5 ≤ W.heap.size → Q .normal { a with defers := { target := .collected (B0 + 3), args := #[] } :: a.defers } W)
    (hstop : ∀ W, X W → W.heap[B0 + 3]? = some (.deferred (some [])) → B0 + 5 ≤ W.heap.size → Code.ret.wpIn Fence.wide N Tryd.prog Q { a with defers := { target := .collected (B0 + 3), args := #[] } :: a.defers } W) :
    (Code.rangeFunc g ps assign body).wpIn Fence.wide N Tryd.prog Q a w := by
  subst hN
  refine wpIn_rangeFunc ?_
  intro fn _
  obtain ⟨rec, hrec⟩ : ∃ rec : LoopState → Option Code → Loop, rec = fun st pe => { state := st, pending := pe, fn, tmps := a.tmps, params := ps, assign, body, defers := w.heap.size } := ⟨_, rfl⟩
  obtain ⟨W1, hW1⟩ : ∃ W1, (w.alloc (.deferred (some []))).alloc (.loop (rec .ready none)) = W1 := ⟨_, rfl⟩
  have hL1 : W1.heap[B0 + 4]? = some (.loop (rec .ready none)) := by
    rw [← hW1]; have := World.alloc_heap_new (w.alloc (.deferred (some []))) (.loop (rec .ready none)); rwa [World.size_alloc, hw] at this
  have hK1 : W1.heap[B0 + 3]? = some (.deferred (some [])) := by
    rw [← hW1, ← hw]; exact (Below.heap_alloc _ _ _ (by simp)).trans (World.alloc_heap_new w _)
  have hF1 : ∀ S, Fr S w W1 := fun S => by rw [← hW1]; exact ((Fr.refl S w).alloc _).alloc _
  have hs1 : B0 + 5 ≤ W1.heap.size := by rw [← hW1, World.size_alloc, World.size_alloc]; omega
  refine ⟨B0 + 4, [{ target := .collected (B0 + 3), args := #[] }], W1, { target := .fn (.func 91) #[.pointer (some ⟨B0 + 1, 0, none⟩), .pointer (some ⟨B0, 0, none⟩), .pointer (some ⟨B0 + 2, 0, none⟩)], args := #[.func (.yield (B0 + 4)) #[] #[]] }, W1, 91,
    #[.func (.yield (B0 + 4)) #[] #[]] ++ #[.pointer (some ⟨B0 + 1, 0, none⟩), .pointer (some ⟨B0, 0, none⟩), .pointer (some ⟨B0 + 2, 0, none⟩)], W1, ?_, ?_, ?_, ?_, fun e => (by cases e), ?_⟩
  · rw [← hW1, hrec, ← hw, show B0 + 4 = w.heap.size + 1 by omega]; exact run_enterLoop_outer _ _ _ _ _
  · simp only [resolve, hg]
    simp [go_sem]
  · intro f' _; trivial
  · have eg : ∀ args w, (callFunc 91 args).run Tryd.prog w = .ok (.enter 91 args) w := enters_of Tryd.func91 (by kernel_rfl) rfl
    simp [invoke, go_sem, eg]
  · have xs4 : XS B0 (B0 + 4) := ⟨by omega, by omega⟩
    -- one round, whatever comes next
    have round : ∀ r W, I (some r) W → W.heap[B0 + 4]? = some (.loop (rec .ready none)) → W.heap[B0 + 3]? = some (.deferred (some [])) → B0 + 5 ≤ W.heap.size →
        YieldAt Fence.wide m Tryd.prog (B0 + 4) #[.string (pc r)] W fun e W' =>
          (∀ q, q = B0 ∨ q = B0 + 1 ∨ q = B0 + 2 → W'.heap[q]? = W.heap[q]?) ∧ W'.heap[B0 + 3]? = some (.deferred (some [])) ∧ B0 + 5 ≤ W'.heap.size ∧
          ((e = .returned (.bool true) ∧ I (nx r) W' ∧ W'.heap[B0 + 4]? = some (.loop (rec .ready none))) ∨ (e = .returned (.bool false) ∧ X W' ∧ W'.heap[B0 + 4]? = some (.loop (rec .done (some .ret))))) := by
      intro r W hi hl hk hs
      have hy := run_yield (P := Tryd.prog) (args := #[.string (pc r)]) hl (by rw [hrec, hps]; rfl)
      rw [hrec] at hy
      refine ⟨fn, _, assign, body, hy, roundIn_of_wpIn trivial (hassign (pc r) W _ ?_)⟩
      refine ⟨_, run_beginRound hl (by rw [hrec]), ?_⟩
      obtain ⟨Wb, hWb⟩ : ∃ Wb, Wb = W.putObj (B0 + 4) (.loop { rec .ready none with state := .busy }) := ⟨_, rfl⟩
      rw [← hWb]
      have hfb : Fr (XS B0) W Wb := by rw [hWb]; exact (Fr.refl _ W).putObj _ xs4
      have hlb : Wb.heap[B0 + 4]? = some (.loop { rec .ready none with state := .busy }) := by rw [hWb]; exact World.putObj_heap_same (by omega)
      have hob : ∀ q, q ≠ B0 + 4 → Wb.heap[q]? = W.heap[q]? := fun q hq => by rw [hWb]; exact World.putObj_heap_other hq
      have hsb : Wb.heap.size = W.heap.size := by rw [hWb]; simp
      refine wpIn_mono (hbody r Wb (hst _ _ _ hi hfb) (by omega)) ?_
      rintro e a3 W3 ⟨hend, hkp, hs3⟩
      have hl3 : W3.heap[B0 + 4]? = some (.loop { rec .ready none with state := .busy }) := (hkp _ xs4).trans hlb
      have hk3 : ∀ o, (W3.putObj (B0 + 4) o).heap[B0 + 3]? = some (.deferred (some [])) := fun o =>
        (World.putObj_heap_other (by omega)).trans ((hkp _ ⟨by omega, by omega⟩).trans ((hob _ (by omega)).trans hk))
      have hq3 : ∀ o q, q = B0 ∨ q = B0 + 1 ∨ q = B0 + 2 → (W3.putObj (B0 + 4) o).heap[q]? = W.heap[q]? := fun o q hq =>
        (World.putObj_heap_other (by omega)).trans ((hkp q ⟨by omega, by omega⟩).trans (hob q (by omega)))
      have hz3 : ∀ o, B0 + 5 ≤ (W3.putObj (B0 + 4) o).heap.size := fun o => by simp; omega
      have hf3 : ∀ o, Fr (XS B0) W3 (W3.putObj (B0 + 4) o) := fun o => (Fr.refl _ W3).putObj _ xs4
      have hlt3 : B0 + 4 < W3.heap.size := by omega
      rcases hend with ⟨rfl, hi3⟩ | ⟨rfl, hx3⟩
      · have hend := run_endRound (P := Tryd.prog) none hl3
        rw [hrec] at hend
        refine ⟨.bool true, _, hend, hq3 _, hk3 _, hz3 _, .inl ⟨rfl, hst _ _ _ hi3 (hf3 _), ?_⟩⟩
        rw [hrec]; exact World.putObj_heap_same hlt3
      · have hend := run_endRound (P := Tryd.prog) (some .ret) hl3
        rw [hrec] at hend
        refine ⟨.bool false, _, hend, hq3 _, hk3 _, hz3 _, .inr ⟨rfl, hsX _ _ hx3 (hf3 _), ?_⟩⟩
        rw [hrec]; exact World.putObj_heap_same hlt3
    have hit := split_it m (B0 + 4) (B0 + 1) B0 (B0 + 2)
      (fun r W => I (some r) W ∧ W.heap[B0 + 4]? = some (.loop (rec .ready none)) ∧ W.heap[B0 + 3]? = some (.deferred (some [])) ∧ B0 + 5 ≤ W.heap.size ∧ Blk W (B0 + 1) 9 #[.string ⟨#[44]⟩] ∧ Blk W (B0 + 2) 3 #[.int .i64 0])
      (fun W => I none W ∧ W.heap[B0 + 4]? = some (.loop (rec .ready none)) ∧ W.heap[B0 + 3]? = some (.deferred (some [])) ∧ B0 + 5 ≤ W.heap.size)
      (fun W => X W ∧ W.heap[B0 + 4]? = some (.loop (rec .done (some .ret))) ∧ W.heap[B0 + 3]? = some (.deferred (some [])) ∧ B0 + 5 ≤ W.heap.size)
      s0 hlen
      (fun r W v hJ => by
        obtain ⟨hi, hl, hk, hs, hp, hz⟩ := hJ
        have hf : Fr (· = B0) W (W.setCell ⟨B0, 0, none⟩ v) := (Fr.refl (· = B0) W).set_ (p := ⟨B0, 0, none⟩) rfl v
        exact ⟨hst _ _ _ hi (hf.more (fun q hq => ⟨by omega, by omega⟩)), (hf.block _ (by omega) (fun e => by omega)).trans hl, (hf.block _ (by omega) (fun e => by omega)).trans hk, Nat.le_trans hs hf.size, hp.fr hf (fun e => by omega), hz.fr hf (fun e => by omega)⟩)
      (fun r W hJ => ⟨hJ.2.2.2.2.1.cell 0, hJ.2.2.2.2.2.cell 0⟩)
      (fun r W hc hJ hB => by
        obtain ⟨hi, hl, hk, hs, hp, hz⟩ := hJ
        have hr := round r W hi hl hk hs
        rw [show pc r = ⟨(r.take (cm r).toNat).toArray⟩ from if_pos hc, show nx r = some (r.drop ((cm r).toNat + 1)) from if_pos hc] at hr
        refine hr.mono ?_
        rintro e W' ⟨hq, hk', hs', hh⟩
        refine ⟨(hq _ (.inl rfl)).trans hB, ?_⟩
        rcases hh with ⟨rfl, hi', hl'⟩ | ⟨rfl, hx', hl'⟩
        · exact .inl ⟨rfl, hi', hl', hk', hs', (hq _ (.inr (.inl rfl))).trans hp, (hq _ (.inr (.inr rfl))).trans hz⟩
        · exact .inr ⟨rfl, hx', hl', hk', hs'⟩)
      (fun r W hc hJ hB => by
        obtain ⟨hi, hl, hk, hs, hp, hz⟩ := hJ
        have hr := round r W hi hl hk hs
        rw [show pc r = ⟨r.toArray⟩ from if_neg (by omega), show nx r = none from if_neg (by omega)] at hr
        refine hr.mono ?_
        rintro e W' ⟨hq, hk', hs', hh⟩
        rcases hh with ⟨rfl, hi', hl'⟩ | ⟨rfl, hx', hl'⟩
        · exact ⟨⟨_, rfl⟩, .inl ⟨hi', hl', hk', hs'⟩⟩
        · exact ⟨⟨_, rfl⟩, .inr ⟨hx', hl', hk', hs'⟩⟩)
      W1 ⟨hst _ _ _ h0 (hF1 _), hL1, hK1, hs1, hbp.fr (hF1 (fun _ => False)) (fun q => q), hbz.fr (hF1 (fun _ => False)) (fun q => q)⟩ (hbs.fr (hF1 (fun _ => False)) (fun q => q))
    refine CallsIn.mono hit ?_
    rintro e W2 ⟨⟨v, rfl⟩, ⟨hi, hl, hk, hs⟩ | ⟨hx, hl, hk, hs⟩⟩
    · refine ⟨none, W2.putObj (B0 + 4) (.loop { rec .ready none with state := .exhausted }), ?_, ?_⟩
      · have := run_endLoop (P := Tryd.prog) hl (by rw [hrec]; simp)
        rw [hrec] at this ⊢
        exact this
      · have hf : Fr (XS B0) W2 (W2.putObj (B0 + 4) (.loop { rec .ready none with state := .exhausted })) := (Fr.refl _ W2).putObj _ xs4
        exact hdone _ (hst _ _ _ hi hf) ((World.putObj_heap_other (by omega)).trans hk) (by simp; omega)
    · refine ⟨some .ret, W2.putObj (B0 + 4) (.loop { rec .done (some .ret) with state := .exhausted }), ?_, ?_⟩
      · have := run_endLoop (P := Tryd.prog) hl (by rw [hrec]; simp)
        rw [hrec] at this ⊢
        exact this
      · have hf : Fr (XS B0) W2 (W2.putObj (B0 + 4) (.loop { rec .done (some .ret) with state := .exhausted })) := (Fr.refl _ W2).putObj _ xs4
        exact hstop _ (hsX _ _ hx hf) ((World.putObj_heap_other (by omega)).trans hk) (by simp; omega)
end Go.Proofs.YtalpkdnnclghaaaDoor
