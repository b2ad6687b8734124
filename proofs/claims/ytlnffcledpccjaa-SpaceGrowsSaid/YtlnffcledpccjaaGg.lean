/-
  pager.Pager.vacate, round.
-/
import Derived.Test.YtlnffcledpccjaaGf
namespace Go.Proofs.Ytlnffcledpccjaa
open Go.RowKit
set_option linter.unusedVariables false
set_option linter.unusedSimpArgs false
/-- a frame has no page any more -/
def Pd.vac (d : Pd) (i : Nat) : Pd := { d with st := upd d.st (d.pg i) none, pg := fun j => if j = i then (0, 0) else d.pg j, tk := setB d.tk i false, th := setB d.th i false, ch := setB d.ch i false }
theorem PI.vac {d : Pd} {mem : List Nat} {C : Nat × Nat → List Nat} {W : List (Nat × Nat)} {E : Nat × Nat → Prop} (h : PI d mem C W E) {i : Nat} (hi : i < d.n) (ht : d.tk i = true)
    (hs : ¬ E (d.pg i) → (C (d.pg i) = zs d.sd.size → d.blk (d.pg i) = none) ∧ (C (d.pg i) ≠ zs d.sd.size → ∃ id, d.blk (d.pg i) = some id ∧ d.sd.B id = some (C (d.pg i)))) : PI (d.vac i) mem C W E := by
  have htk : ∀ j, (d.vac i).tk j = true → j ≠ i ∧ d.tk j = true := fun j hj => by
    by_cases e : j = i
    · simp [Pd.vac, setB, e] at hj
    · exact ⟨e, by simpa [Pd.vac, setB, e] using hj⟩
  have hpg : ∀ j, j ≠ i → (d.vac i).pg j = d.pg j := fun j hj => by simp [Pd.vac, hj]
  have hsto : ∀ x, (d.vac i).st x = none → x = d.pg i ∨ (x ≠ d.pg i ∧ d.st x = none) := fun x hx => by
    by_cases e : x = d.pg i
    · exact .inl e
    · exact .inr ⟨e, by rw [← hx]; exact (upd_other _ _ _ e).symm⟩
  refine ⟨h.rin, h.rap, fun x j => ?_, fun j hj => ?_, h.len, fun j hj htj hE => ?_, h.bin, h.inj, fun x id hE hx hb => ?_, fun x hE hx hb => ?_, fun j hj htj hE hc => ?_, h.wb, fun j hj htj hc => ?_, fun j hj htj => ?_⟩
  · show upd d.st (d.pg i) none x = some j ↔ j < d.n ∧ (d.vac i).tk j = true ∧ (d.vac i).pg j = x
    by_cases e : x = d.pg i
    · subst e
      rw [upd_same]
      refine ⟨fun q => (by cases q), fun ⟨q1, q2, q3⟩ => ?_⟩
      obtain ⟨n1, n2⟩ := htk j q2
      rw [hpg j n1] at q3
      have h1 := (h.st (d.pg i) j).2 ⟨q1, n2, q3⟩
      rw [h.stand hi ht] at h1
      exact absurd (Option.some.inj h1).symm n1
    · rw [upd_other _ _ _ e, h.st x j]
      constructor
      · rintro ⟨q1, q2, q3⟩
        have hji : j ≠ i := fun q => e (by rw [← q3, q])
        exact ⟨q1, by simpa [Pd.vac, setB, hji] using q2, by rw [hpg j hji]; exact q3⟩
      · rintro ⟨q1, q2, q3⟩
        obtain ⟨n1, n2⟩ := htk j q2
        exact ⟨q1, n2, by rw [← hpg j n1]; exact q3⟩
  · by_cases e : j = i
    · simp only [Pd.vac, if_pos e]; exact ⟨Nat.zero_le _, Nat.zero_le _⟩
    · rw [hpg j e]; exact h.sm j hj
  · obtain ⟨n1, n2⟩ := htk j htj
    rw [hpg j n1] at hE ⊢
    exact h.cont j hj n2 hE
  · rcases hsto x hx with e | ⟨e, hx'⟩
    · subst e
      have := hs hE
      by_cases hz : C (d.pg i) = zs d.sd.size
      · have hn := this.1 hz
        have hb' : d.blk (d.pg i) = some id := hb
        rw [hn] at hb'; cases hb'
      · obtain ⟨id', h1, h2⟩ := this.2 hz
        have hb' : d.blk (d.pg i) = some id := hb
        rw [h1] at hb'
        rw [← Option.some.inj hb']
        exact ⟨h2, hz⟩
    · exact h.cb x id hE hx' hb
  · rcases hsto x hx with e | ⟨e, hx'⟩
    · subst e
      have hb' : d.blk (d.pg i) = none := hb
      by_cases hz : C (d.pg i) = zs d.sd.size
      · exact hz
      · obtain ⟨id', h1, _⟩ := (hs hE).2 hz
        rw [hb'] at h1; cases h1
    · exact h.cz x hE hx' hb
  · obtain ⟨n1, n2⟩ := htk j htj
    rw [hpg j n1] at hE ⊢
    have hc' : d.ch j = false := by simpa [Pd.vac, setB, n1] using hc
    exact h.cl j hj n2 hE hc'
  · obtain ⟨n1, n2⟩ := htk j htj
    rw [hpg j n1]
    have hc' : d.ch j = true := by simpa [Pd.vac, setB, n1] using hc
    exact h.wc j hj n2 hc'
  · by_cases e : j = i
    · simp [Pd.vac, setB, e]
    · have h1 : d.tk j = false := by simpa [Pd.vac, setB, e] using htj
      have h2 := h.un j hj h1
      simp only [Pd.vac, setB, if_neg e]
      exact h2
/-- frame i is written whole -/
theorem Frs.set6 {w : World} {A : Pa} {d d' : Pd} {i : Nat} {v0 v1 v2 v3 v4 v5 : Value} (h : Frs w A d) (hi : i < d.n) (hn : d'.n = d.n) (h1 : frC d' i = [v0, v1, v2, v3, v4, v5]) (h2 : ∀ j, j ≠ i → frC d' j = frC d j) :
    Frs ((((((w.setCell ⟨A.fb, i * 6, none⟩ v0).setCell ⟨A.fb, i * 6 + 1, none⟩ v1).setCell ⟨A.fb, i * 6 + 2, none⟩ v2).setCell ⟨A.fb, i * 6 + 3, none⟩ v3).setCell ⟨A.fb, i * 6 + 4, none⟩ v4).setCell ⟨A.fb, i * 6 + 5, none⟩ v5) A d' := by
  obtain ⟨cur, hb, hc⟩ := h
  refine ⟨_, (((((hb.set_ (i * 6) v0).set_ (i * 6 + 1) v1).set_ (i * 6 + 2) v2).set_ (i * 6 + 3) v3).set_ (i * 6 + 4) v4).set_ (i * 6 + 5) v5, fun j hj q u hu => ?_⟩
  rw [hn] at hj
  have hq6 : q < 6 := by
    have := (List.getElem?_eq_some_iff.1 hu).1
    simpa [frC] using this
  by_cases e : j = i
  · subst e
    rw [h1] at hu
    obtain ⟨z, hz⟩ : ∃ z, (frC d j)[5]? = some z := ⟨_, rfl⟩
    have hsz := (Array.getElem?_eq_some_iff.1 (hc j hj 5 z hz)).1
    rcases (by omega : q = 0 ∨ q = 1 ∨ q = 2 ∨ q = 3 ∨ q = 4 ∨ q = 5) with rfl | rfl | rfl | rfl | rfl | rfl <;>
      (simp only [Array.getElem?_setIfInBounds, Array.size_setIfInBounds]; simp at hu; subst hu)
    all_goals (simp; omega)
  · rw [h2 j e] at hu
    rw [Array.getElem?_setIfInBounds_ne (by omega), Array.getElem?_setIfInBounds_ne (by omega), Array.getElem?_setIfInBounds_ne (by omega), Array.getElem?_setIfInBounds_ne (by omega), Array.getElem?_setIfInBounds_ne (by omega), Array.getElem?_setIfInBounds_ne (by omega)]
    exact hc j hj q u hu
def VcPost (A : Pa) (d : Pd) (i : Nat) (w : World) (e : Ending) (w' : World) : Prop := e = .returned (.tuple #[]) ∧ Lay w' A (d.vac i) ∧ Fr (fun k => k = A.sm ∨ k = A.fb) w w'
set_option maxHeartbeats 2000000 in
set_option maxRecDepth 100000 in
theorem vacate_ok {w : World} {A : Pa} {d : Pd} (h : Lay w A d) (i : Nat) (hi : i < d.n) (hx : small (d.pg i)) :
    Calls Try.prog 46 #[.pointer (some ⟨A.p, 0, none⟩), .int .i64 i] w (VcPost A d i w) := by
  obtain ⟨⟨a, b⟩, hab⟩ : ∃ x, x = d.pg i := ⟨_, rfl⟩
  have c3 : w.drew.cell? ⟨A.p, 3, none⟩ = some (.map (some A.sm)) := h.blk.cell 3
  have c2 : w.drew.cell? ⟨A.p, 2, none⟩ = some (.slice (some ⟨A.fb, 0, none⟩) d.n A.cap) := h.blk.cell 2
  have f1 : w.drew.cell? ⟨A.fb, i * 6 + 1, none⟩ = some (.int .i64 a) := (h.drewN 1).fcell hi 1 (by simp [frC, ← hab, I64])
  have f2 : w.drew.cell? ⟨A.fb, i * 6 + 2, none⟩ = some (.int .i64 b) := (h.drewN 1).fcell hi 2 (by simp [frC, ← hab, I64])
  obtain ⟨q, hq, hst⟩ := h.sts
  obtain ⟨w2, hrun, hpm, hturn⟩ := (hst.drewN 1).drop Try.underlying99 (x := (a, b)) (by rw [hab]; exact hx) 0
  have hrun' : (Builtin.delete_ #[99, 104] 0 #[.map (some A.sm), .agg #[.int .i64 a, .int .i64 b]]).run Try.prog w.drew = .ok (.tuple #[]) w2 := hrun
  have hf2 : Fr (· = A.sm) w w2 := (Fr.refl _ w).drew.trans (turned_fr hturn)
  have hP2 : Blk w2 A.p 102 (pgC A d) := h.blk.fr hf2 (Ne.symm h.psm)
  have hfr2 : Frs w2 A d := h.frs.same (hf2.block _ h.frs.lt (Ne.symm h.fsm))
  have hK2 : w2.cell? ⟨A.p, 3, none⟩ = some (.map (some A.sm)) ∧ w2.cell? ⟨A.p, 2, none⟩ = some (.slice (some ⟨A.fb, 0, none⟩) d.n A.cap) ∧ w2.cell? ⟨A.fb, i * 6 + 1, none⟩ = some (.int .i64 a) ∧ w2.cell? ⟨A.fb, i * 6 + 2, none⟩ = some (.int .i64 b) := by
    have hcf : ∀ j, w2.cell? ⟨A.fb, j, none⟩ = w.cell? ⟨A.fb, j, none⟩ := fun j => World.cell?_of_block (hf2.block _ h.frs.lt (Ne.symm h.fsm))
    exact ⟨hP2.cell 3, hP2.cell 2, (hcf _).trans f1, (hcf _).trans f2⟩
  have hn2 := h.n2
  have H := Lib.hid h
  have HAB := Lib.hid hab
  have HX := Lib.hid hx
  have HQ : Hid (∃ q, q ≤ 1000000 ∧ PM w2 A.sm q (upd d.st (a, b) none)) := Lib.hid ⟨_, by split <;> omega, hpm⟩
  have HF2 := Lib.hid hf2
  have HP2 := Lib.hid hP2
  have HFR2 := Lib.hid hfr2
  clear h hab hx hst hpm hturn hf2 hP2 hfr2 hrun hq
  go_enter Try.func46, Try.ntmps46
  go_wp2
  refine wp_region_held_drew (S := (fun W => W.cell? ⟨A.p, 3, none⟩ = some (.map (some A.sm)) ∧ W.cell? ⟨A.p, 2, none⟩ = some (.slice (some ⟨A.fb, 0, none⟩) d.n A.cap) ∧ W.cell? ⟨A.fb, i * 6 + 1, none⟩ = some (.int .i64 a) ∧ W.cell? ⟨A.fb, i * 6 + 2, none⟩ = some (.int .i64 b))) (by kernel_rfl) ⟨c3, c2, f1, f2⟩ (fun hHeld => ?_)
  refine wpAnyH_take (i := 0) (oi := ?oi_1) (v := ?_) ?hi_1 (by kernel_rfl) ?hf_1 (by kernel_rfl) ?hQ_1 ?hy_1 (by assumption) ?_
  case hi_1 => simp only [List.getElem?_toArray, List.getElem?_cons_zero, List.getElem?_cons_succ]; rfl
  case hf_1 => kernel_rfl
  case hQ_1 => exact fun _ _ _ h => h
  case hy_1 =>
    refine Or.inl ⟨by rfl, ?_⟩
    intro W hSw
    obtain ⟨q0, q1, q2, q3⟩ := hSw
    go_simp
    try with_reducible rfl
  try simp only [Act.put, List.setIfInBounds_toArray, List.set_cons_zero, List.set_cons_succ]
  refine wpAnyH_take (i := 1) (oi := ?oi_2) (v := ?_) ?hi_2 (by kernel_rfl) ?hf_2 (by kernel_rfl) ?hQ_2 ?hy_2 (by assumption) ?_
  case hi_2 => simp only [List.getElem?_toArray, List.getElem?_cons_zero, List.getElem?_cons_succ]; rfl
  case hf_2 => kernel_rfl
  case hQ_2 => exact fun _ _ _ h => h
  case hy_2 =>
    refine Or.inl ⟨by rfl, ?_⟩
    intro W hSw
    obtain ⟨q0, q1, q2, q3⟩ := hSw
    go_simp
    try with_reducible rfl
  try simp only [Act.put, List.setIfInBounds_toArray, List.set_cons_zero, List.set_cons_succ]
  refine wpAnyH_take (i := 2) (oi := ?oi_3) (v := ?_) ?hi_3 (by kernel_rfl) ?hf_3 (by kernel_rfl) ?hQ_3 ?hy_3 (by assumption) ?_
  case hi_3 => simp only [List.getElem?_toArray, List.getElem?_cons_zero, List.getElem?_cons_succ]; rfl
  case hf_3 => kernel_rfl
  case hQ_3 => exact fun _ _ _ h => h
  case hy_3 =>
    refine Or.inl ⟨by rfl, ?_⟩
    intro W hSw
    obtain ⟨q0, q1, q2, q3⟩ := hSw
    go_simp
    try with_reducible rfl
  try simp only [Act.put, List.setIfInBounds_toArray, List.set_cons_zero, List.set_cons_succ]
  refine wpAnyH_take (i := 3) (oi := ?oi_4) (v := ?_) ?hi_4 (by kernel_rfl) ?hf_4 (by kernel_rfl) ?hQ_4 ?hy_4 (by assumption) ?_
  case hi_4 => simp only [List.getElem?_toArray, List.getElem?_cons_zero, List.getElem?_cons_succ]; rfl
  case hf_4 => kernel_rfl
  case hQ_4 => exact fun _ _ _ h => h
  case hy_4 =>
    refine Or.inl ⟨by rfl, ?_⟩
    intro W hSw
    obtain ⟨q0, q1, q2, q3⟩ := hSw
    go_simp
    try with_reducible rfl
  try simp only [Act.put, List.setIfInBounds_toArray, List.set_cons_zero, List.set_cons_succ]
  refine wpAnyH_take (i := 4) (oi := ?oi_5) (v := ?_) ?hi_5 (by kernel_rfl) ?hf_5 (by kernel_rfl) ?hQ_5 ?hy_5 (by assumption) ?_
  case hi_5 => simp only [List.getElem?_toArray, List.getElem?_cons_zero, List.getElem?_cons_succ]; rfl
  case hf_5 => kernel_rfl
  case hQ_5 => exact fun _ _ _ h => h
  case hy_5 =>
    refine Or.inl ⟨by rfl, ?_⟩
    intro W hSw
    obtain ⟨q0, q1, q2, q3⟩ := hSw
    go_simp
    try with_reducible rfl
  try simp only [Act.put, List.setIfInBounds_toArray, List.set_cons_zero, List.set_cons_succ]
  refine wpAnyH_take (i := 5) (oi := ?oi_6) (v := ?_) ?hi_6 (by kernel_rfl) ?hf_6 (by kernel_rfl) ?hQ_6 ?hy_6 (by assumption) ?_
  case hi_6 => simp only [List.getElem?_toArray, List.getElem?_cons_zero, List.getElem?_cons_succ]; rfl
  case hf_6 => kernel_rfl
  case hQ_6 => exact fun _ _ _ h => h
  case hy_6 =>
    refine Or.inl ⟨by rfl, ?_⟩
    intro W hSw
    obtain ⟨q0, q1, q2, q3⟩ := hSw
    go_simp
    try with_reducible rfl
  try simp only [Act.put, List.setIfInBounds_toArray, List.set_cons_zero, List.set_cons_succ]
  refine wpAnyH_take (i := 6) (oi := ?oi_7) (v := ?_) ?hi_7 (by kernel_rfl) ?hf_7 (by kernel_rfl) ?hQ_7 ?hy_7 (by assumption) ?_
  case hi_7 => simp only [List.getElem?_toArray, List.getElem?_cons_zero, List.getElem?_cons_succ]; rfl
  case hf_7 => kernel_rfl
  case hQ_7 => exact fun _ _ _ h => h
  case hy_7 =>
    refine Or.inl ⟨by rfl, ?_⟩
    intro W hSw
    obtain ⟨q0, q1, q2, q3⟩ := hSw
    go_simp
    try with_reducible rfl
  try simp only [Act.put, List.setIfInBounds_toArray, List.set_cons_zero, List.set_cons_succ]
  refine wpAnyH_take (i := 7) (oi := ?oi_8) (v := ?_) ?hi_8 (by kernel_rfl) ?hf_8 (by kernel_rfl) ?hQ_8 ?hy_8 (by assumption) ?_
  case hi_8 => simp only [List.getElem?_toArray, List.getElem?_cons_zero, List.getElem?_cons_succ]; rfl
  case hf_8 => kernel_rfl
  case hQ_8 => exact fun _ _ _ h => h
  case hy_8 =>
    refine Or.inl ⟨by rfl, ?_⟩
    intro W hSw
    obtain ⟨q0, q1, q2, q3⟩ := hSw
    go_simp
    try with_reducible rfl
  try simp only [Act.put, List.setIfInBounds_toArray, List.set_cons_zero, List.set_cons_succ]
  refine wpAnyH_take (i := 8) (oi := ?oi_9) (v := ?_) ?hi_9 (by kernel_rfl) ?hf_9 (by kernel_rfl) ?hQ_9 ?hy_9 (by assumption) ?_
  case hi_9 => simp only [List.getElem?_toArray, List.getElem?_cons_zero, List.getElem?_cons_succ]; rfl
  case hf_9 => kernel_rfl
  case hQ_9 => exact fun _ _ _ h => h
  case hy_9 =>
    refine Or.inl ⟨by rfl, ?_⟩
    intro W hSw
    obtain ⟨q0, q1, q2, q3⟩ := hSw
    go_simp
    try with_reducible rfl
  try simp only [Act.put, List.setIfInBounds_toArray, List.set_cons_zero, List.set_cons_succ]
  refine wpAnyH_take (i := 9) (oi := ?oi_10) (v := ?_) ?hi_10 (by kernel_rfl) ?hf_10 (by kernel_rfl) ?hQ_10 ?hy_10 (by assumption) ?_
  case hi_10 => simp only [List.getElem?_toArray, List.getElem?_cons_zero, List.getElem?_cons_succ]; rfl
  case hf_10 => kernel_rfl
  case hQ_10 => exact fun _ _ _ h => h
  case hy_10 =>
    refine Or.inl ⟨by rfl, ?_⟩
    intro W hSw
    obtain ⟨q0, q1, q2, q3⟩ := hSw
    go_simp
    try with_reducible rfl
  try simp only [Act.put, List.setIfInBounds_toArray, List.set_cons_zero, List.set_cons_succ]
  refine wpAnyH_take (i := 10) (oi := ?oi_11) (v := ?_) ?hi_11 (by kernel_rfl) ?hf_11 (by kernel_rfl) ?hQ_11 ?hy_11 (by assumption) ?_
  case hi_11 => simp only [List.getElem?_toArray, List.getElem?_cons_zero, List.getElem?_cons_succ]; rfl
  case hf_11 => kernel_rfl
  case hQ_11 => exact fun _ _ _ h => h
  case hy_11 =>
    refine Or.inl ⟨by rfl, ?_⟩
    intro W hSw
    obtain ⟨q0, q1, q2, q3⟩ := hSw
    go_simp
    try with_reducible rfl
  try simp only [Act.put, List.setIfInBounds_toArray, List.set_cons_zero, List.set_cons_succ]
  refine wpAnyH_take (i := 11) (oi := ?oi_12) (v := ?_) ?hi_12 (by kernel_rfl) ?hf_12 (by kernel_rfl) ?hQ_12 ?hy_12 (by assumption) ?_
  case hi_12 => simp only [List.getElem?_toArray, List.getElem?_cons_zero, List.getElem?_cons_succ]; rfl
  case hf_12 => kernel_rfl
  case hQ_12 => exact fun _ _ _ h => h
  case hy_12 =>
    refine Or.inl ⟨by rfl, ?_⟩
    intro W hSw
    obtain ⟨q0, q1, q2, q3⟩ := hSw
    go_simp
    try with_reducible rfl
  try simp only [Act.put, List.setIfInBounds_toArray, List.set_cons_zero, List.set_cons_succ]
  refine wpAnyH_ready (rs := [12]) (by kernel_rfl) (by simp) ?_
  refine AllReadyH.cons (o := ?oi_13) ?hi_13 (fun K hK => ?_) AllReadyH.nil
  case hi_13 => simp only [List.getElem?_toArray, List.getElem?_cons_zero, List.getElem?_cons_succ]; rfl
  go_simp
  refine hK.out _ _ hK2 (fun hHeld => ?_)
  clear hK K
  try simp only [Act.put, List.setIfInBounds_toArray, List.set_cons_zero, List.set_cons_succ]
  refine wpAnyH_done (by kernel_rfl) ?_ _
  clear hHeld hK2 hrun' c3 c2 f1 f2
  have c2 : w2.drew.cell? ⟨A.p, 2, none⟩ = some (.slice (some ⟨A.fb, 0, none⟩) d.n A.cap) := HP2.out.cell 2
  obtain ⟨cur, hcb, hcc⟩ := HFR2.out
  have f0 : w2.drew.cell? ⟨A.fb, i * 6, none⟩ = some (.int .i64 (d.room i)) := by
    have := hcc i hi 0 _ rfl
    rw [← hcb.cell] at this
    exact this
  have HCC := Lib.hid hcc
  have HCB := Lib.hid hcb
  clear hcc hcb
  go_wp2
  refine wp_region_held_drew (S := (fun W => W.cell? ⟨A.p, 2, none⟩ = some (.slice (some ⟨A.fb, 0, none⟩) d.n A.cap) ∧ W.cell? ⟨A.fb, i * 6, none⟩ = some (.int .i64 (d.room i)))) (by kernel_rfl) ⟨c2, f0⟩ (fun hHeld => ?_)
  refine wpAnyH_take (i := 0) (oi := ?oi_14) (v := ?_) ?hi_14 (by kernel_rfl) ?hf_14 (by kernel_rfl) ?hQ_14 ?hy_14 (by assumption) ?_
  case hi_14 => simp only [List.getElem?_toArray, List.getElem?_cons_zero, List.getElem?_cons_succ]; rfl
  case hf_14 => kernel_rfl
  case hQ_14 => exact fun _ _ _ h => h
  case hy_14 =>
    refine Or.inl ⟨by rfl, ?_⟩
    intro W hSw
    obtain ⟨q0, q1⟩ := hSw
    go_simp
    try with_reducible rfl
  try simp only [Act.put, List.setIfInBounds_toArray, List.set_cons_zero, List.set_cons_succ]
  refine wpAnyH_take (i := 1) (oi := ?oi_15) (v := ?_) ?hi_15 (by kernel_rfl) ?hf_15 (by kernel_rfl) ?hQ_15 ?hy_15 (by assumption) ?_
  case hi_15 => simp only [List.getElem?_toArray, List.getElem?_cons_zero, List.getElem?_cons_succ]; rfl
  case hf_15 => kernel_rfl
  case hQ_15 => exact fun _ _ _ h => h
  case hy_15 =>
    refine Or.inl ⟨by rfl, ?_⟩
    intro W hSw
    obtain ⟨q0, q1⟩ := hSw
    go_simp
    try with_reducible rfl
  try simp only [Act.put, List.setIfInBounds_toArray, List.set_cons_zero, List.set_cons_succ]
  refine wpAnyH_take (i := 2) (oi := ?oi_16) (v := ?_) ?hi_16 (by kernel_rfl) ?hf_16 (by kernel_rfl) ?hQ_16 ?hy_16 (by assumption) ?_
  case hi_16 => simp only [List.getElem?_toArray, List.getElem?_cons_zero, List.getElem?_cons_succ]; rfl
  case hf_16 => kernel_rfl
  case hQ_16 => exact fun _ _ _ h => h
  case hy_16 =>
    refine Or.inl ⟨by rfl, ?_⟩
    intro W hSw
    obtain ⟨q0, q1⟩ := hSw
    go_simp
    try with_reducible rfl
  try simp only [Act.put, List.setIfInBounds_toArray, List.set_cons_zero, List.set_cons_succ]
  refine wpAnyH_take (i := 3) (oi := ?oi_17) (v := ?_) ?hi_17 (by kernel_rfl) ?hf_17 (by kernel_rfl) ?hQ_17 ?hy_17 (by assumption) ?_
  case hi_17 => simp only [List.getElem?_toArray, List.getElem?_cons_zero, List.getElem?_cons_succ]; rfl
  case hf_17 => kernel_rfl
  case hQ_17 => exact fun _ _ _ h => h
  case hy_17 =>
    refine Or.inl ⟨by rfl, ?_⟩
    intro W hSw
    obtain ⟨q0, q1⟩ := hSw
    go_simp
    try with_reducible rfl
  try simp only [Act.put, List.setIfInBounds_toArray, List.set_cons_zero, List.set_cons_succ]
  refine wpAnyH_take (i := 4) (oi := ?oi_18) (v := ?_) ?hi_18 (by kernel_rfl) ?hf_18 (by kernel_rfl) ?hQ_18 ?hy_18 (by assumption) ?_
  case hi_18 => simp only [List.getElem?_toArray, List.getElem?_cons_zero, List.getElem?_cons_succ]; rfl
  case hf_18 => kernel_rfl
  case hQ_18 => exact fun _ _ _ h => h
  case hy_18 =>
    refine Or.inl ⟨by rfl, ?_⟩
    intro W hSw
    obtain ⟨q0, q1⟩ := hSw
    go_simp
    try with_reducible rfl
  try simp only [Act.put, List.setIfInBounds_toArray, List.set_cons_zero, List.set_cons_succ]
  refine wpAnyH_take (i := 5) (oi := ?oi_19) (v := ?_) ?hi_19 (by kernel_rfl) ?hf_19 (by kernel_rfl) ?hQ_19 ?hy_19 (by assumption) ?_
  case hi_19 => simp only [List.getElem?_toArray, List.getElem?_cons_zero, List.getElem?_cons_succ]; rfl
  case hf_19 => kernel_rfl
  case hQ_19 => exact fun _ _ _ h => h
  case hy_19 =>
    refine Or.inl ⟨by rfl, ?_⟩
    intro W hSw
    obtain ⟨q0, q1⟩ := hSw
    go_simp
    try with_reducible rfl
  try simp only [Act.put, List.setIfInBounds_toArray, List.set_cons_zero, List.set_cons_succ]
  refine wpAnyH_take (i := 6) (oi := ?oi_20) (v := ?_) ?hi_20 (by kernel_rfl) ?hf_20 (by kernel_rfl) ?hQ_20 ?hy_20 (by assumption) ?_
  case hi_20 => simp only [List.getElem?_toArray, List.getElem?_cons_zero, List.getElem?_cons_succ]; rfl
  case hf_20 => kernel_rfl
  case hQ_20 => exact fun _ _ _ h => h
  case hy_20 =>
    refine Or.inl ⟨by rfl, ?_⟩
    intro W hSw
    obtain ⟨q0, q1⟩ := hSw
    go_simp
    try with_reducible rfl
  try simp only [Act.put, List.setIfInBounds_toArray, List.set_cons_zero, List.set_cons_succ]
  refine wpAnyH_take (i := 7) (oi := ?oi_21) (v := ?_) ?hi_21 (by kernel_rfl) ?hf_21 (by kernel_rfl) ?hQ_21 ?hy_21 (by assumption) ?_
  case hi_21 => simp only [List.getElem?_toArray, List.getElem?_cons_zero, List.getElem?_cons_succ]; rfl
  case hf_21 => kernel_rfl
  case hQ_21 => exact fun _ _ _ h => h
  case hy_21 =>
    refine Or.inl ⟨by rfl, ?_⟩
    intro W hSw
    obtain ⟨q0, q1⟩ := hSw
    go_simp
    try with_reducible rfl
  try simp only [Act.put, List.setIfInBounds_toArray, List.set_cons_zero, List.set_cons_succ]
  refine wpAnyH_take (i := 8) (oi := ?oi_22) (v := ?_) ?hi_22 (by kernel_rfl) ?hf_22 (by kernel_rfl) ?hQ_22 ?hy_22 (by assumption) ?_
  case hi_22 => simp only [List.getElem?_toArray, List.getElem?_cons_zero, List.getElem?_cons_succ]; rfl
  case hf_22 => kernel_rfl
  case hQ_22 => exact fun _ _ _ h => h
  case hy_22 =>
    refine Or.inl ⟨by rfl, ?_⟩
    intro W hSw
    obtain ⟨q0, q1⟩ := hSw
    go_simp
    try with_reducible rfl
  try simp only [Act.put, List.setIfInBounds_toArray, List.set_cons_zero, List.set_cons_succ]
  refine wpAnyH_take (i := 9) (oi := ?oi_23) (v := ?_) ?hi_23 (by kernel_rfl) ?hf_23 (by kernel_rfl) ?hQ_23 ?hy_23 (by assumption) ?_
  case hi_23 => simp only [List.getElem?_toArray, List.getElem?_cons_zero, List.getElem?_cons_succ]; rfl
  case hf_23 => kernel_rfl
  case hQ_23 => exact fun _ _ _ h => h
  case hy_23 =>
    refine Or.inl ⟨by rfl, ?_⟩
    intro W hSw
    obtain ⟨q0, q1⟩ := hSw
    go_simp
    try with_reducible rfl
  try simp only [Act.put, List.setIfInBounds_toArray, List.set_cons_zero, List.set_cons_succ]
  refine wpAnyH_take (i := 10) (oi := ?oi_24) (v := ?_) ?hi_24 (by kernel_rfl) ?hf_24 (by kernel_rfl) ?hQ_24 ?hy_24 (by assumption) ?_
  case hi_24 => simp only [List.getElem?_toArray, List.getElem?_cons_zero, List.getElem?_cons_succ]; rfl
  case hf_24 => kernel_rfl
  case hQ_24 => exact fun _ _ _ h => h
  case hy_24 =>
    refine Or.inl ⟨by rfl, ?_⟩
    intro W hSw
    obtain ⟨q0, q1⟩ := hSw
    go_simp
    try with_reducible rfl
  try simp only [Act.put, List.setIfInBounds_toArray, List.set_cons_zero, List.set_cons_succ]
  refine wpAnyH_take (i := 11) (oi := ?oi_25) (v := ?_) ?hi_25 (by kernel_rfl) ?hf_25 (by kernel_rfl) ?hQ_25 ?hy_25 (by assumption) ?_
  case hi_25 => simp only [List.getElem?_toArray, List.getElem?_cons_zero, List.getElem?_cons_succ]; rfl
  case hf_25 => kernel_rfl
  case hQ_25 => exact fun _ _ _ h => h
  case hy_25 =>
    refine Or.inl ⟨by rfl, ?_⟩
    intro W hSw
    obtain ⟨q0, q1⟩ := hSw
    go_simp
    try with_reducible rfl
  try simp only [Act.put, List.setIfInBounds_toArray, List.set_cons_zero, List.set_cons_succ]
  refine wpAnyH_take (i := 12) (oi := ?oi_26) (v := ?_) ?hi_26 (by kernel_rfl) ?hf_26 (by kernel_rfl) ?hQ_26 ?hy_26 (by assumption) ?_
  case hi_26 => simp only [List.getElem?_toArray, List.getElem?_cons_zero, List.getElem?_cons_succ]; rfl
  case hf_26 => kernel_rfl
  case hQ_26 => exact fun _ _ _ h => h
  case hy_26 =>
    refine Or.inl ⟨by rfl, ?_⟩
    intro W hSw
    obtain ⟨q0, q1⟩ := hSw
    go_simp
    try with_reducible rfl
  try simp only [Act.put, List.setIfInBounds_toArray, List.set_cons_zero, List.set_cons_succ]
  refine wpAnyH_take (i := 13) (oi := ?oi_27) (v := ?_) ?hi_27 (by kernel_rfl) ?hf_27 (by kernel_rfl) ?hQ_27 ?hy_27 (by assumption) ?_
  case hi_27 => simp only [List.getElem?_toArray, List.getElem?_cons_zero, List.getElem?_cons_succ]; rfl
  case hf_27 => kernel_rfl
  case hQ_27 => exact fun _ _ _ h => h
  case hy_27 =>
    refine Or.inl ⟨by rfl, ?_⟩
    intro W hSw
    obtain ⟨q0, q1⟩ := hSw
    go_simp
    try with_reducible rfl
  try simp only [Act.put, List.setIfInBounds_toArray, List.set_cons_zero, List.set_cons_succ]
  refine wpAnyH_take (i := 14) (oi := ?oi_28) (v := ?_) ?hi_28 (by kernel_rfl) ?hf_28 (by kernel_rfl) ?hQ_28 ?hy_28 (by assumption) ?_
  case hi_28 => simp only [List.getElem?_toArray, List.getElem?_cons_zero, List.getElem?_cons_succ]; rfl
  case hf_28 => kernel_rfl
  case hQ_28 => exact fun _ _ _ h => h
  case hy_28 =>
    refine Or.inl ⟨by rfl, ?_⟩
    intro W hSw
    obtain ⟨q0, q1⟩ := hSw
    go_simp
    try with_reducible rfl
  try simp only [Act.put, List.setIfInBounds_toArray, List.set_cons_zero, List.set_cons_succ]
  refine wpAnyH_ready (rs := [15]) (by kernel_rfl) (by simp) ?_
  refine AllReadyH.cons (o := ?oi_29) ?hi_29 (fun K hK => ?_) AllReadyH.nil
  case hi_29 => simp only [List.getElem?_toArray, List.getElem?_cons_zero, List.getElem?_cons_succ]; rfl
  have zz : ∀ j, w2.frozen? ⟨A.fb, j, none⟩ = false := fun j => HCB.out.frozen j
  have g0 : w2.cell? ⟨A.fb, i * 6, none⟩ = some (.int .i64 (d.room i)) := f0
  have gg : ∀ (k : Nat) (v : Value), (frC d i)[k]? = some v → w2.cell? ⟨A.fb, i * 6 + k, none⟩ = some v := fun k v hv => by rw [HCB.out.cell]; exact HCC.out i hi k v hv
  have g1 := gg 1 _ rfl
  have g2 := gg 2 _ rfl
  have g3 := gg 3 _ rfl
  have g4 := gg 4 _ rfl
  have g5 := gg 5 _ rfl
  clear gg
  go_simp
  have hfr6 : Frs ((((((w2.setCell ⟨A.fb, i * 6, none⟩ (.int .i64 (d.room i))).setCell ⟨A.fb, i * 6 + 1, none⟩ (.int .i64 0)).setCell ⟨A.fb, i * 6 + 2, none⟩ (.int .i64 0)).setCell ⟨A.fb, i * 6 + 3, none⟩ (.bool false)).setCell ⟨A.fb, i * 6 + 4, none⟩ (.bool false)).setCell ⟨A.fb, i * 6 + 5, none⟩ (.bool false)) A (d.vac i) := HFR2.out.set6 hi rfl (by simp [frC, Pd.vac, setB, I64]) (fun j hj => by simp [frC, Pd.vac, setB, hj])
  have hF6 : Fr (· = A.fb) w2 ((((((w2.setCell ⟨A.fb, i * 6, none⟩ (.int .i64 (d.room i))).setCell ⟨A.fb, i * 6 + 1, none⟩ (.int .i64 0)).setCell ⟨A.fb, i * 6 + 2, none⟩ (.int .i64 0)).setCell ⟨A.fb, i * 6 + 3, none⟩ (.bool false)).setCell ⟨A.fb, i * 6 + 4, none⟩ (.bool false)).setCell ⟨A.fb, i * 6 + 5, none⟩ (.bool false)) := ((((((Fr.refl (· = A.fb) w2).set_ (p := ⟨A.fb, i * 6, none⟩) rfl _).set_ (p := ⟨A.fb, i * 6 + 1, none⟩) rfl _).set_ (p := ⟨A.fb, i * 6 + 2, none⟩) rfl _).set_ (p := ⟨A.fb, i * 6 + 3, none⟩) rfl _).set_ (p := ⟨A.fb, i * 6 + 4, none⟩) rfl _).set_ (p := ⟨A.fb, i * 6 + 5, none⟩) rfl _
  have hP6 : Blk ((((((w2.setCell ⟨A.fb, i * 6, none⟩ (.int .i64 (d.room i))).setCell ⟨A.fb, i * 6 + 1, none⟩ (.int .i64 0)).setCell ⟨A.fb, i * 6 + 2, none⟩ (.int .i64 0)).setCell ⟨A.fb, i * 6 + 3, none⟩ (.bool false)).setCell ⟨A.fb, i * 6 + 4, none⟩ (.bool false)).setCell ⟨A.fb, i * 6 + 5, none⟩ (.bool false)) A.p 102 (pgC A d) := HP2.out.fr hF6 (Ne.symm H.out.pfb)
  obtain ⟨Y, eY⟩ : ∃ Y, Y = ((((((w2.setCell ⟨A.fb, i * 6, none⟩ (.int .i64 (d.room i))).setCell ⟨A.fb, i * 6 + 1, none⟩ (.int .i64 0)).setCell ⟨A.fb, i * 6 + 2, none⟩ (.int .i64 0)).setCell ⟨A.fb, i * 6 + 3, none⟩ (.bool false)).setCell ⟨A.fb, i * 6 + 4, none⟩ (.bool false)).setCell ⟨A.fb, i * 6 + 5, none⟩ (.bool false)) := ⟨_, rfl⟩
  rw [← eY] at hfr6 hF6 hP6 ⊢
  have HFR6 := Lib.hid hfr6
  have HF6 := Lib.hid hF6
  have HP6 := Lib.hid hP6
  have hS6 : Y.drew.cell? ⟨A.p, 2, none⟩ = some (.slice (some ⟨A.fb, 0, none⟩) d.n A.cap) ∧ Y.drew.cell? ⟨A.fb, i * 6, none⟩ = some (.int .i64 (d.room i)) := by
    refine ⟨hP6.cell 2, ?_⟩
    obtain ⟨cur6, hb6, hc6⟩ := hfr6
    have := hc6 i hi 0 (I64 (d.room i)) rfl
    rw [Nat.add_zero, ← hb6.cell] at this
    exact this
  clear hfr6 hF6 hP6 eY zz g0 g1 g2 g3 g4 g5
  refine hK.out _ _ hS6 (fun hHeld => ?_)
  clear hK K
  try simp only [Act.put, List.setIfInBounds_toArray, List.set_cons_zero, List.set_cons_succ]
  refine wpAnyH_done (by kernel_rfl) ?_ _
  clear hHeld hS6
  go_end0
  have hf : Fr (fun k => k = A.sm ∨ k = A.fb) w Y.drew := (HF2.out.more (fun k hk => .inl hk)).trans ((HF6.out.drew).more (fun k hk => .inr hk))
  obtain ⟨q, hq, hst⟩ := HQ.out
  rw [HAB.out] at hst
  have h := H.out
  have hne : ∀ k, (k = A.sm ∨ k = A.fb) → k ≠ A.p := fun k hk => by rcases hk with rfl | rfl; exact h.psm; exact h.pfb
  refine ⟨rfl, ⟨HP6.out, HFR6.out, ⟨q, hq, hst.fr (S := (· = A.fb)) HF6.out.drew h.fsm⟩, h.bls.fr hf ?_, h.sto.fr hf ?_, h.ne1, h.ne2, h.ne3, h.n1, h.n2, h.cap1, h.cap2, h.hd, h.nof⟩, hf⟩
  · rintro (e | e)
    · exact h.ne1 e.symm
    · exact h.fbm e
  · intro k hk e
    rcases e with e | e
    · exact h.mine_sm (e ▸ hk)
    · exact h.mine_fb (e ▸ hk)
end Go.Proofs.Ytlnffcledpccjaa
