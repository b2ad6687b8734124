/-
  pager.Pager.vacate, round.
-/
import Derived.Test.YtlnffcledpccjaaGf
namespace Go.Proofs.Ytlnffcledpccjaa
open Go.RowKit
set_option linter.unusedVariables false
set_option linter.unusedSimpArgs false
/-- a frame has no page any more -/
def Pd.vac (d : Pd) (i : Nat) : Pd := { d with st := upd d.st (d.pg i) none, pg := fun j => if j = i then (0, 0) else d.pg j, tk := setB d.tk i false, th := setB d.th i false, ch := setB d.ch i false }
theorem PI.vac {d : Pd} {mem : List Nat} {C : Nat × Nat → List Nat} {W : List (Nat × Nat)} {E : Nat × Nat → Prop} (h : PI d mem C W E) {i : Nat} (hi : i < d.n) (ht : d.tk i = true)
    (hs : ¬ E (d.pg i) → (C (d.pg i) = zs d.sd.size → d.blk (d.pg i) = none) ∧ (C (d.pg i) ≠ zs d.sd.size → ∃ id, d.blk (d.pg i) = some id ∧ d.sd.B id = some (C (d.pg i)))) : PI (d.vac i) mem C W E := by
  have htk : ∀ j, (d.vac i).tk j = true → j ≠ i ∧ d.tk j = true := fun j hj => by
    by_cases e : j = i
    · simp [Pd.vac, setB, e] at hj
    · exact ⟨e, by simpa [Pd.vac, setB, e] using hj⟩
  have hpg : ∀ j, j ≠ i → (d.vac i).pg j = d.pg j := fun j hj => by simp [Pd.vac, hj]
  have hsto : ∀ x, (d.vac i).st x = none → x = d.pg i ∨ (x ≠ d.pg i ∧ d.st x = none) := fun x hx => by
    by_cases e : x = d.pg i
    · exact .inl e
    · exact .inr ⟨e, by rw [← hx]; exact (upd_other _ _ _ e).symm⟩
  refine ⟨h.rin, h.rap, fun x j => ?_, fun j hj => ?_, h.len, fun j hj htj hE => ?_, h.bin, h.inj, fun x id hE hx hb => ?_, fun x hE hx hb => ?_, fun j hj htj hE hc => ?_, h.wb, fun j hj htj hc => ?_, fun j hj htj => ?_⟩
  · show upd d.st (d.pg i) none x = some j ↔ j < d.n ∧ (d.vac i).tk j = true ∧ (d.vac i).pg j = x
    by_cases e : x = d.pg i
    · subst e
      rw [upd_same]
      refine ⟨fun q => (by cases q), fun ⟨q1, q2, q3⟩ => ?_⟩
      obtain ⟨n1, n2⟩ := htk j q2
      rw [hpg j n1] at q3
      have h1 := (h.st (d.pg i) j).2 ⟨q1, n2, q3⟩
      rw [h.stand hi ht] at h1
      exact absurd (Option.some.inj h1).symm n1
    · rw [upd_other _ _ _ e, h.st x j]
      constructor
      · rintro ⟨q1, q2, q3⟩
        have hji : j ≠ i := fun q => e (by rw [← q3, q])
        exact ⟨q1, by simpa [Pd.vac, setB, hji] using q2, by rw [hpg j hji]; exact q3⟩
      · rintro ⟨q1, q2, q3⟩
        obtain ⟨n1, n2⟩ := htk j q2
        exact ⟨q1, n2, by rw [← hpg j n1]; exact q3⟩
  · by_cases e : j = i
    · simp only [Pd.vac, if_pos e]; exact ⟨Nat.zero_le _, Nat.zero_le _⟩
    · rw [hpg j e]; exact h.sm j hj
  · obtain ⟨n1, n2⟩ := htk j htj
    rw [hpg j n1] at hE ⊢
    exact h.cont j hj n2 hE
  · rcases hsto x hx with e | ⟨e, hx'⟩
    · subst e
      have := hs hE
      by_cases hz : C (d.pg i) = zs d.sd.size
      · have hn := this.1 hz
        have hb' : d.blk (d.pg i) = some id := hb
        rw [hn] at hb'; cases hb'
      · obtain ⟨id', h1, h2⟩ := this.2 hz
        have hb' : d.blk (d.pg i) = some id := hb
        rw [h1] at hb'
        rw [← Option.some.inj hb']
        exact ⟨h2, hz⟩
    · exact h.cb x id hE hx' hb
  · rcases hsto x hx with e | ⟨e, hx'⟩
    · subst e
      have hb' : d.blk (d.pg i) = none := hb
      by_cases hz : C (d.pg i) = zs d.sd.size
      · exact hz
      · obtain ⟨id', h1, _⟩ := (hs hE).2 hz
        rw [hb'] at h1; cases h1
    · exact h.cz x hE hx' hb
  · obtain ⟨n1, n2⟩ := htk j htj
    rw [hpg j n1] at hE ⊢
    have hc' : d.ch j = false := by simpa [Pd.vac, setB, n1] using hc
    exact h.cl j hj n2 hE hc'
  · obtain ⟨n1, n2⟩ := htk j htj
    rw [hpg j n1]
    have hc' : d.ch j = true := by simpa [Pd.vac, setB, n1] using hc
    exact h.wc j hj n2 hc'
  · by_cases e : j = i
    · simp [Pd.vac, setB, e]
    · have h1 : d.tk j = false := by simpa [Pd.vac, setB, e] using htj
      have h2 := h.un j hj h1
      simp only [Pd.vac, setB, if_neg e]
      exact h2
/-- frame i is written whole -/
theorem Frs.set6 {w : World} {A : Pa} {d d' : Pd} {i : Nat} {v0 v1 v2 v3 v4 v5 : Value} (h : Frs w A d) (hi : i < d.n) (hn : d'.n = d.n) (h1 : frC d' i = [v0, v1, v2, v3, v4, v5]) (h2 : ∀ j, j ≠ i → frC d' j = frC d j) :
    Frs ((((((w.setCell ⟨A.fb, i * 6, none⟩ v0).setCell ⟨A.fb, i * 6 + 1, none⟩ v1).setCell ⟨A.fb, i * 6 + 2, none⟩ v2).setCell ⟨A.fb, i * 6 + 3, none⟩ v3).setCell ⟨A.fb, i * 6 + 4, none⟩ v4).setCell ⟨A.fb, i * 6 + 5, none⟩ v5) A d' := by
  obtain ⟨cur, hb, hc⟩ := h
  refine ⟨_, (((((hb.set_ (i * 6) v0).set_ (i * 6 + 1) v1).set_ (i * 6 + 2) v2).set_ (i * 6 + 3) v3).set_ (i * 6 + 4) v4).set_ (i * 6 + 5) v5, fun j hj q u hu => ?_⟩
  rw [hn] at hj
  have hq6 : q < 6 := by
    have := (List.getElem?_eq_some_iff.1 hu).1
    simpa [frC] using this
  by_cases e : j = i
  · subst e
    rw [h1] at hu
    obtain ⟨z, hz⟩ : ∃ z, (frC d j)[5]? = some z := ⟨_, rfl⟩
    have hsz := (Array.getElem?_eq_some_iff.1 (hc j hj 5 z hz)).1
    rcases (by omega : q = 0 ∨ q = 1 ∨ q = 2 ∨ q = 3 ∨ q = 4 ∨ q = 5) with rfl | rfl | rfl | rfl | rfl | rfl <;>
      (simp only [Array.getElem?_setIfInBounds, Array.size_setIfInBounds]; simp at hu; subst hu)
    all_goals (simp; omega)
  · rw [h2 j e] at hu
    rw [Array.getElem?_setIfInBounds_ne (by omega), Array.getElem?_setIfInBounds_ne (by omega), Array.getElem?_setIfInBounds_ne (by omega), Array.getElem?_setIfInBounds_ne (by omega), Array.getElem?_setIfInBounds_ne (by omega), Array.getElem?_setIfInBounds_ne (by omega)]
    exact hc j hj q u hu
def VcPost (A : Pa) (d : Pd) (i : Nat) (w : World) (e : Ending) (w' : World) : Prop := e = .returned (.tuple #[]) ∧ Lay w' A (d.vac i) ∧ Fr (fun k => k = A.sm ∨ k = A.fb) w w'
set_option maxHeartbeats 2000000 in
set_option maxRecDepth 100000 in
theorem vacate_ok {w : World} {A : Pa} {d : Pd} (h : Lay w A d) (i : Nat) (hi : i < d.n) (hx : small (d.pg i)) :
    Calls Try.prog 46 #[.pointer (some ⟨A.p, 0, none⟩), .int .i64 i] w (VcPost A d i w) := by
  obtain ⟨⟨a, b⟩, hab⟩ : ∃ x, x = d.pg i := ⟨_, rfl⟩
  have c3 : w.drew.cell? ⟨A.p, 3, none⟩ = some (.map (some A.sm)) := h.blk.cell 3
  have c2 : w.drew.cell? ⟨A.p, 2, none⟩ = some (.slice (some ⟨A.fb, 0, none⟩) d.n A.cap) := h.blk.cell 2
  have f1 : w.drew.cell? ⟨A.fb, i * 6 + 1, none⟩ = some (.int .i64 a) := (h.drewN 1).fcell hi 1 (by simp [frC, ← hab, I64])
  have f2 : w.drew.cell? ⟨A.fb, i * 6 + 2, none⟩ = some (.int .i64 b) := (h.drewN 1).fcell hi 2 (by simp [frC, ← hab, I64])
  obtain ⟨q, hq, hst⟩ := h.sts
  obtain ⟨w2, hrun, hpm, hturn⟩ := (hst.drewN 1).drop Try.underlying99 (x := (a, b)) (by rw [hab]; exact hx) 0
  have hrun' : (Builtin.delete_ #[99, 104] 0 #[.map (some A.sm), .agg #[.int .i64 a, .int .i64 b]]).run Try.prog w.drew = .ok (.tuple #[]) w2 := hrun
  have hf2 : Fr (· = A.sm) w w2 := (Fr.refl _ w).drew.trans (turned_fr hturn)
  have hP2 : Blk w2 A.p 102 (pgC A d) := h.blk.fr hf2 (Ne.symm h.psm)
  have hfr2 : Frs w2 A d := h.frs.same (hf2.block _ h.frs.lt (Ne.symm h.fsm))
  have hK2 : w2.cell? ⟨A.p, 3, none⟩ = some (.map (some A.sm)) ∧ w2.cell? ⟨A.p, 2, none⟩ = some (.slice (some ⟨A.fb, 0, none⟩) d.n A.cap) ∧ w2.cell? ⟨A.fb, i * 6 + 1, none⟩ = some (.int .i64 a) ∧ w2.cell? ⟨A.fb, i * 6 + 2, none⟩ = some (.int .i64 b) := by
    have hcf : ∀ j, w2.cell? ⟨A.fb, j, none⟩ = w.cell? ⟨A.fb, j, none⟩ := fun j => World.cell?_of_block (hf2.block _ h.frs.lt (Ne.symm h.fsm))
    exact ⟨hP2.cell 3, hP2.cell 2, (hcf _).trans f1, (hcf _).trans f2⟩
  have hn2 := h.n2
  have H := Lib.hid h
  have HAB := Lib.hid hab
  have HX := Lib.hid hx
  have HQ : Hid (∃ q, q ≤ 1000000 ∧ PM w2 A.sm q (upd d.st (a, b) none)) := Lib.hid ⟨_, by split <;> omega, hpm⟩
  have HF2 := Lib.hid hf2
  have HP2 := Lib.hid hP2
  have HFR2 := Lib.hid hfr2
  clear h hab hx hst hpm hturn hf2 hP2 hfr2 hrun hq
  go_enter Try.func46, Try.ntmps46
  go_wp2
  refine wp_region_held_drew (S := (fun W => W.cell? ⟨A.p, 3, none⟩ = some (.map (some A.sm)) ∧ W.cell? ⟨A.p, 2, none⟩ = some (.slice (some ⟨A.fb, 0, none⟩) d.n A.cap) ∧ W.cell? ⟨A.fb, i * 6 + 1, none⟩ = some (.int .i64 a) ∧ W.cell? ⟨A.fb, i * 6 + 2, none⟩ = some (.int .i64 b))) (by kernel_rfl) ⟨c3, c2, f1, f2⟩ (fun hHeld => ?_)
  refine wpAnyH_take (i := 0) (oi := ?oi_1) (v := ?_) ?hi_1 (by kernel_rfl) ?hf_1 (by kernel_rfl) ?hQ_1 ?hy_1 (by assumption) ?_
  case hi_1 => simp only [List.getElem?_toArray, List.getElem?_cons_zero, List.getElem?_cons_succ]; rfl
  case hf_1 => kernel_rfl
  case hQ_1 => exact fun _ _ _ h => h
  case hy_1 =>
    refine Or.inl ⟨by rfl, ?_⟩
    intro W hSw
    obtain ⟨q0, q1, q2, q3⟩ := hSw
    go_simp
    try with_reducible rfl
  try simp only [Act.put, List.setIfInBounds_toArray, List.set_cons_zero, List.set_cons_succ]
  refine wpAnyH_take (i := 1) (oi := ?oi_2) (v := ?_) ?hi_2 (by kernel_rfl) ?hf_2 (by kernel_rfl) ?hQ_2 ?hy_2 (by assumption) ?_
  case hi_2 => simp only [List.getElem?_toArray, List.getElem?_cons_zero, List.getElem?_cons_succ]; rfl
  case hf_2 => kernel_rfl
  case hQ_2 => exact fun _ _ _ h => h
  case hy_2 =>
    refine Or.inl ⟨by rfl, ?_⟩
    intro W hSw
    obtain ⟨q0, q1, q2, q3⟩ := hSw
    go_simp
    try with_reducible rfl
  try simp only [Act.put, List.setIfInBounds_toArray, List.set_cons_zero, List.set_cons_succ]
  refine wpAnyH_take (i := 2) (oi := ?oi_3) (v := ?_) ?hi_3 (by kernel_rfl) ?hf_3 (by kernel_rfl) ?hQ_3 ?hy_3 (by assumption) ?_
  case hi_3 => simp only [List.getElem?_toArray, List.getElem?_cons_zero, List.getElem?_cons_succ]; rfl
  case hf_3 => kernel_rfl
  case hQ_3 => exact fun _ _ _ h => h
  case hy_3 =>
    refine Or.inl ⟨by rfl, ?_⟩
    intro W hSw
    obtain ⟨q0, q1, q2, q3⟩ := hSw
    go_simp
    try with_reducible rfl
  try simp only [Act.put, List.setIfInBounds_toArray, List.set_cons_zero, List.set_cons_succ]
  refine wpAnyH_take (i := 3) (oi := ?oi_4) (v := ?_) ?hi_4 (by kernel_rfl) ?hf_4 (by kernel_rfl) ?hQ_4 ?hy_4 (by assumption) ?_
  case hi_4 => simp only [List.getElem?_toArray, List.getElem?_cons_zero, List.getElem?_cons_succ]; rfl
  case hf_4 => kernel_rfl
  case hQ_4 => exact fun _ _ _ h => h
  case hy_4 =>
    refine Or.inl ⟨by rfl, ?_⟩
    intro W hSw
    obtain ⟨q0, q1, q2, q3⟩ := hSw
    go_simp
    try with_reducible rfl
  try simp only [Act.put, List.setIfInBounds_toArray, List.set_cons_zero, List.set_cons_succ]
  refine wpAnyH_take (i := 4) (oi := ?oi_5) (v := ?_) ?hi_5 (by kernel_rfl) ?hf_5 (by kernel_rfl) ?hQ_5 ?hy_5 (by assumption) ?_
  case hi_5 => simp only [List.getElem?_toArray, List.getElem?_cons_zero, List.getElem?_cons_succ]; rfl
  case hf_5 => kernel_rfl
  case hQ_5 => exact fun _ _ _ h => h
  case hy_5 =>
    refine Or.inl ⟨by rfl, ?_⟩
    intro W hSw
    obtain ⟨q0, q1, q2, q3⟩ := hSw
    go_simp
    try with_reducible rfl
  try simp only [Act.put, List.setIfInBounds_toArray, List.set_cons_zero, List.set_cons_succ]
  refine wpAnyH_take (i := 5) (oi := ?oi_6) (v := ?_) ?hi_6 (by kernel_rfl) ?hf_6 (by kernel_rfl) ?hQ_6 ?hy_6 (by assumption) ?_
  case hi_6 => simp only [List.getElem?_toArray, List.getElem?_cons_zero, List.getElem?_cons_succ]; rfl
  case hf_6 => kernel_rfl
  case hQ_6 => exact fun _ _ _ h => h
  case hy_6 =>
    refine Or.inl ⟨by rfl, ?_⟩
    intro W hSw
    obtain ⟨q0, q1, q2, q3⟩ := hSw
    go_simp
    try with_reducible rfl
  try simp only [Act.put, List.setIfInBounds_toArray, List.set_cons_zero, List.set_cons_succ]
  refine wpAnyH_take (i := 6) (oi := ?oi_7) (v := ?_) ?hi_7 (by kernel_rfl) ?hf_7 (by kernel_rfl) ?hQ_7 ?hy_7 (by assumption) ?_
  case hi_7 => simp only [List.getElem?_toArray, List.getElem?_cons_zero, List.getElem?_cons_succ]; rfl
  case hf_7 => kernel_rfl
  case hQ_7 => exact fun _ _ _ h => h
  case hy_7 =>
    refine Or.inl ⟨by rfl, ?_⟩
    intro W hSw
    obtain ⟨q0, q1, q2, q3⟩ := hSw
    go_simp
    try with_reducible rfl
  try simp only [Act.put, List.setIfInBounds_toArray, List.set_cons_zero, List.set_cons_succ]
  refine wpAnyH_take (i := 7) (oi := ?oi_8) (v := ?_) ?hi_8 (by kernel_rfl) ?hf_8 (by kernel_rfl) ?hQ_8 ?hy_8 (by assumption) ?_
  case hi_8 => simp only [List.getElem?_toArray, List.getElem?_cons_zero, List.getElem?_cons_succ]; rfl
  case hf_8 => kernel_rfl
  case hQ_8 => exact fun _ _ _ h => h
  case hy_8 =>
    refine Or.inl ⟨by rfl, ?_⟩
    intro W hSw
    obtain ⟨q0, q1, q2, q3⟩ := hSw
    go_simp
    try with_reducible rfl
  try simp only [Act.put, List.setIfInBounds_toArray, List.set_cons_zero, List.set_cons_succ]
  refine wpAnyH_take (i := 8) (oi := ?oi_9) (v := ?_) ?hi_9 (by kernel_rfl) ?hf_9 (by kernel_rfl) ?hQ_9 ?hy_9 (by assumption) ?_
  case hi_9 => simp only [List.getElem?_toArray, List.getElem?_cons_zero, List.getElem?_cons_succ]; rfl
  case hf_9 => kernel_rfl
  case hQ_9 => exact fun _ _ _ h => h
  case hy_9 =>
    refine Or.inl ⟨by rfl, ?_⟩
    intro W hSw
    obtain ⟨q0, q1, q2, q3⟩ := hSw
    go_simp
    try with_reducible rfl
  try simp only [Act.put, List.setIfInBounds_toArray, List.set_cons_zero, List.set_cons_succ]
  refine wpAnyH_take (i := 9) (oi := ?oi_10) (v := ?_) ?hi_10 (by kernel_rfl) ?hf_10 (by kernel_rfl) ?hQ_10 ?hy_10 (by assumption) ?_
  case hi_10 => simp only [List.getElem?_toArray, List.getElem?_cons_zero, List.getElem?_cons_succ]; rfl
  case hf_10 => kernel_rfl
  case hQ_10 => exact fun _ _ _ h => h
  case hy_10 =>
    refine Or.inl ⟨by rfl, ?_⟩
    intro W hSw
    obtain ⟨q0, q1, q2, q3⟩ := hSw
    go_simp
    try with_reducible rfl
  try simp only [Act.put, List.setIfInBounds_toArray, List.set_cons_zero, List.set_cons_succ]
  refine wpAnyH_take (i := 10) (oi := ?oi_11) (v := ?_) ?hi_11 (by kernel_rfl) ?hf_11 (by kernel_rfl) ?hQ_11 ?hy_11 (by assumption) ?_
  case hi_11 => simp only [List.getElem?_toArray, List.getElem?_cons_zero, List.getElem?_cons_succ]; rfl
  case hf_11 => kernel_rfl
  case hQ_11 => exact fun _ _ _ h => h
  case hy_11 =>
    refine Or.inl ⟨by rfl, ?_⟩
    intro W hSw
    obtain ⟨q0, q1, q2, q3⟩ := hSw
    go_simp
    try with_reducible rfl
  try simp only [Act.put, List.setIfInBounds_toArray, List.set_cons_zero, List.set_cons_succ]
  refine wpAnyH_take (i := 11) (oi := ?oi_12) (v := ?_) ?hi_12 (by kernel_rfl) ?hf_12 (by kernel_rfl) ?hQ_12 ?hy_12 (by assumption) ?_
  case hi_12 => simp only [List.getElem?_toArray, List.getElem?_cons_zero, List.getElem?_cons_succ]; rfl
  case hf_12 => kernel_rfl
  case hQ_12 => exact fun _ _ _ h => h
  case hy_12 =>
    refine Or.inl ⟨by rfl, ?_⟩
    intro W hSw
    obtain ⟨q0, q1, q2, q3⟩ := hSw
    go_simp
    try with_reducible rfl
  try simp only [Act.put, List.setIfInBounds_toArray, List.set_cons_zero, List.set_cons_succ]
  refine wpAnyH_ready (rs := [12]) (by kernel_rfl) (by simp) ?_
  refine AllReadyH.cons (o := ?oi_13) ?hi_13 (fun K hK => ?_) AllReadyH.nil
  case hi_13 => simp only [List.getElem?_toArray, List.getElem?_cons_zero, List.getElem?_cons_succ]; rfl
  go_simp
  refine hK.out _ _ hK2 (fun hHeld => ?_)
  clear hK K
  try simp only [Act.put, List.setIfInBounds_toArray, List.set_cons_zero, List.set_cons_succ]
  refine wpAnyH_done (by kernel_rfl) ?_ _
  clear hHeld hK2 hrun' c3 c2 f1 f2
  have c2 : w2.drew.cell? ⟨A.p, 2, none⟩ = some (.slice (some ⟨A.fb, 0, none⟩) d.n A.cap) := HP2.out.cell 2
  obtain ⟨cur, hcb, hcc⟩ := HFR2.out
  have f0 : w2.drew.cell? ⟨A.fb, i * 6, none⟩ = some (.int .i64 (d.room i)) := by
    have := hcc i hi 0 _ rfl
    rw [← hcb.cell] at this
    exact this
  have HCC := Lib.hid hcc
  have HCB := Lib.hid hcb
  clear hcc hcb
  go_wp2
  refine wp_region_held_drew (S := (fun W => W.cell? ⟨A.p, 2, none⟩ = some (.slice (some ⟨A.fb, 0, none⟩) d.n A.cap) ∧ W.cell? ⟨A.fb, i * 6, none⟩ = some (.int .i64 (d.room i)))) (by kernel_rfl) ⟨c2, f0⟩ (fun hHeld => ?_)
  refine wpAnyH_take (i := 0) (oi := ?oi_14) (v := ?_) ?hi_14 (by kernel_rfl) ?hf_14 (by kernel_rfl) ?hQ_14 ?hy_14 (by assumption) ?_
  case hi_14 => simp only [List.getElem?_toArray, List.getElem?_cons_zero, List.getElem?_cons_succ]; rfl
  case hf_14 => kernel_rfl
  case hQ_14 => exact fun _ _ _ h => h
  case hy_14 =>
    refine Or.inl ⟨by rfl, ?_⟩
    intro W hSw
    obtain ⟨q0, q1⟩ := hSw
    go_simp
    try with_reducible rfl
  try simp only [Act.put, List.setIfInBounds_toArray, List.set_cons_zero, List.set_cons_succ]
  refine wpAnyH_take (i := 1) (oi := ?oi_15) (v := ?_) ?hi_15 (by kernel_rfl) ?hf_15 (by kernel_rfl) ?hQ_15 ?hy_15 (by assumption) ?_
  case hi_15 => simp only [List.getElem?_toArray, List.getElem?_cons_zero, List.getElem?_cons_succ]; rfl
  case hf_15 => kernel_rfl
  case hQ_15 => exact fun _ _ _ h => h
  case hy_15 =>
    refine Or.inl ⟨by rfl, ?_⟩
    intro W hSw
    obtain ⟨q0, q1⟩ := hSw
    go_simp
    try with_reducible rfl
  try simp only [Act.put, List.setIfInBounds_toArray, List.set_cons_zero, List.set_cons_succ]
  refine wpAnyH_take (i := 2) (oi := ?oi_16) (v := ?_) ?hi_16 (by kernel_rfl) ?hf_16 (by kernel_rfl) ?hQ_16 ?hy_16 (by assumption) ?_
  case hi_16 => simp only [List.getElem?_toArray, List.getElem?_cons_zero, List.getElem?_cons_succ]; rfl
  case hf_16 => kernel_rfl
  case hQ_16 => exact fun _ _ _ h => h
  case hy_16 =>
    refine Or.inl ⟨by rfl, ?_⟩
    intro W hSw
    obtain ⟨q0, q1⟩ := hSw
    go_simp
    try with_reducible rfl
  try simp only [Act.put, List.setIfInBounds_toArray, List.set_cons_zero, List.set_cons_succ]
  refine wpAnyH_take (i := 3) (oi := ?oi_17) (v := ?_) ?hi_17 (by kernel_rfl) ?hf_17 (by kernel_rfl) ?hQ_17 ?hy_17 (by assumption) ?_
  case hi_17 => simp only [List.getElem?_toArray, List.getElem?_cons_zero, List.getElem?_cons_succ]; rfl
  case hf_17 => kernel_rfl
  case hQ_17 => exact fun _ _ _ h => h
  case hy_17 =>
    refine Or.inl ⟨by rfl, ?_⟩
    intro W hSw
    obtain ⟨q0, q1⟩ := hSw
    go_simp
    try with_reducible rfl
  try simp only [Act.put, List.setIfInBounds_toArray, List.set_cons_zero, List.set_cons_succ]
  refine wpAnyH_take (i := 4) (oi := ?oi_18) (v := ?_) ?hi_18 (by kernel_rfl) ?hf_18 (by kernel_rfl) ?hQ_18 ?hy_18 (by assumption) ?_
  case hi_18 => simp only [List.getElem?_toArray, List.getElem?_cons_zero, List.getElem?_cons_succ]; rfl
  case hf_18 => kernel_rfl
  case hQ_18 => exact fun _ _ _ h => h
  case hy_18 =>
    refine Or.inl ⟨by rfl, ?_⟩
    intro W hSw
    obtain ⟨q0, q1⟩ := hSw
    go_simp
    try with_reducible rfl
  try simp only [Act.put, List.setIfInBounds_toArray, List.set_cons_zero, List.set_cons_succ]
  refine wpAnyH_take (i := 5) (oi := ?oi_19) (v := ?_) ?hi_19 (by kernel_rfl) ?hf_19 (by kernel_rfl) ?hQ_19 ?hy_19 (by assumption) ?_
  case hi_19 => simp only [List.getElem?_toArray, List.getElem?_cons_zero, List.getElem?_cons_succ]; rfl
  case hf_19 => kernel_rfl
  case hQ_19 => exact fun _ _ _ h => h
  case hy_19 =>
    refine Or.inl ⟨by rfl, ?_⟩
    intro W hSw
    obtain ⟨q0, q1⟩ := hSw
    go_simp
    try with_reducible rfl
  try simp only [Act.put, List.setIfInBounds_toArray, List.set_cons_zero, List.set_cons_succ]
  refine wpAnyH_take (i := 6) (oi := ?oi_20) (v := ?_) ?hi_20 (by kernel_rfl) ?hf_20 (by kernel_rfl) ?hQ_20 ?hy_20 (by assumption) ?_
  case hi_20 => simp only [List.getElem?_toArray, List.getElem?_cons_zero, List.getElem?_cons_succ]; rfl
  case hf_20 => kernel_rfl
  case hQ_20 => exact fun _ _ _ h => h
  case hy_20 =>
    refine Or.inl ⟨by rfl, ?_⟩
    intro W hSw
    obtain ⟨q0, q1⟩ := hSw
    go_simp
    try with_reducible rfl
  try simp only [Act.put, List.setIfInBounds_toArray, List.set_cons_zero, List.set_cons_succ]
  refine wpAnyH_take (i := 7) (oi := ?oi_21) (v := ?_) ?hi_21 (by kernel_rfl) ?hf_21 (by kernel_rfl) ?hQ_21 ?hy_21 (by assumption) ?_
  case hi_21 => simp only [List.getElem?_toArray, List.getElem?_cons_zero, List.getElem?_cons_succ]; rfl
  case hf_21 => kernel_rfl
  case hQ_21 => exact fun _ _ _ h => h
  case hy_21 =>
    refine Or.inl ⟨by rfl, ?_⟩
    intro W hSw
    obtain ⟨q0, q1⟩ := hSw
    go_simp
    try with_reducible rfl
  try simp only [Act.put, List.setIfInBounds_toArray, List.set_cons_zero, List.set_cons_succ]
  refine wpAnyH_take (i := 8) (oi := ?oi_22) (v := ?_) ?hi_22 (by kernel_rfl) ?hf_22 (by kernel_rfl) ?hQ_22 ?hy_22 (by assumption) ?_
  case hi_22 => simp only [List.getElem?_toArray, List.getElem?_cons_zero, List.getElem?_cons_succ]; rfl
  case hf_22 => kernel_rfl
  case hQ_22 => exact fun _ _ _ h => h
  case hy_22 =>
    refine Or.inl ⟨by rfl, ?_⟩
    intro W hSw
    obtain ⟨q0, q1⟩ := hSw
    go_simp
    try with_reducible rfl
  try simp only [Act.put, List.setIfInBounds_toArray, List.set_cons_zero, List.set_cons_succ]
  refine wpAnyH_take (i := 9) (oi := ?oi_23) (v := ?_) ?hi_23 (by kernel_rfl) ?hf_23 (by kernel_rfl) ?hQ_23 ?hy_23 (by assumption) ?_
  case hi_23 => simp only [List.getElem?_toArray, List.getElem?_cons_zero, List.getElem?_cons_succ]; rfl
  case hf_23 => kernel_rfl
  case hQ_23 => exact fun _ _ _ h => h
  case hy_23 =>
    refine Or.inl ⟨by rfl, ?_⟩
    intro W hSw
    obtain ⟨q0, q1⟩ := hSw
    go_simp
    try with_reducible rfl
  try simp only [Act.put, List.setIfInBounds_toArray, List.set_cons_zero, List.set_cons_succ]
  refine wpAnyH_take (i := 10) (oi := ?oi_24) (v := ?_) ?hi_24 (by kernel_rfl) ?hf_24 (by kernel_rfl) ?hQ_24 ?hy_24 (by assumption) ?_
  case hi_24 => simp only [List.getElem?_toArray, List.getElem?_cons_zero, List.getElem?_cons_succ]; rfl
  case hf_24 => kernel_rfl
  case hQ_24 => exact fun _ _ _ h => h
  case hy_24 =>
    refine Or.inl ⟨by rfl, ?_⟩
    intro W hSw
    obtain ⟨q0, q1⟩ := hSw
    go_simp
    try with_reducible rfl
  try simp only [Act.put, List.setIfInBounds_toArray, List.set_cons_zero, List.set_cons_succ]
  refine wpAnyH_take (i := 11) (oi := ?oi_25) (v := ?_) ?hi_25 (by kernel_rfl) ?hf_25 (by kernel_rfl) ?hQ_25 ?hy_25 (by assumption) ?_
  case hi_25 => simp only [List.getElem?_toArray, List.getElem?_cons_zero, List.getElem?_cons_succ]; rfl
  case hf_25 => kernel_rfl
  case hQ_25 => exact fun _ _ _ h => h
  case hy_25 =>
    refine Or.inl ⟨by rfl, ?_⟩
    intro W hSw
    obtain ⟨q0, q1⟩ := hSw
    go_simp
    try with_reducible rfl
  try simp only [Act.put, List.setIfInBounds_toArray, List.set_cons_zero, List.set_cons_succ]
  refine wpAnyH_take (i := 12) (oi := ?oi_26) (v := ?_) ?hi_26 (by kernel_rfl) ?hf_26 (by kernel_rfl) ?hQ_26 ?hy_26 (by assumption) ?_
  case hi_26 => simp only [List.getElem?_toArray, List.getElem?_cons_zero, List.getElem?_cons_succ]; rfl
  case hf_26 => kernel_rfl
  case hQ_26 => exact fun _ _ _ h => h
  case hy_26 =>
    refine Or.inl ⟨by rfl, ?_⟩
    intro W hSw
    obtain ⟨q0, q1⟩ := hSw
    go_simp
    try with_reducible rfl
  try simp only [Act.put, List.setIfInBounds_toArray, List.set_cons_zero, List.set_cons_succ]
  refine wpAnyH_take (i := 13) (oi := ?oi_27) (v := ?_) ?hi_27 (by kernel_rfl) ?hf_27 (by kernel_rfl) ?hQ_27 ?hy_27 (by assumption) ?_
  case hi_27 => simp only [List.getElem?_toArray, List.getElem?_cons_zero, List.getElem?_cons_succ]; rfl
  case hf_27 => kernel_rfl
  case hQ_27 => exact fun _ _ _ h => h
  case hy_27 =>
    refine Or.inl ⟨by rfl, ?_⟩
    intro W hSw
    obtain ⟨q0, q1⟩ := hSw
    go_simp
    try with_reducible rfl
  try simp only [Act.put, List.setIfInBounds_toArray, List.set_cons_zero, List.set_cons_succ]
  refine wpAnyH_take (i := 14) (oi := ?oi_28) (v := ?_) ?hi_28 (by kernel_rfl) ?hf_28 (by kernel_rfl) ?hQ_28 ?hy_28 (by assumption) ?_
  case hi_28 => simp only [List.getElem?_toArray, List.getElem?_cons_zero, List.getElem?_cons_succ]; rfl
  case hf_28 => kernel_rfl
  case hQ_28 => exact fun _ _ _ h => h
  case hy_28 =>
    refine Or.inl ⟨by rfl, ?_⟩
    intro W hSw
    obtain ⟨q0, q1⟩ := hSw
    go_simp
    try with_reducible rfl
  try simp only [Act.put, List.setIfInBounds_toArray, List.set_cons_zero, List.set_cons_succ]
  refine wpAnyH_ready (rs := [15]) (by kernel_rfl) (by simp) ?_
  refine AllReadyH.cons (o := ?oi_29) ?hi_29 (fun K hK => ?_) AllReadyH.nil
  case hi_29 => simp only [List.getElem?_toArray, List.getElem?_cons_zero, List.getElem?_cons_succ]; rfl
  have zz : ∀ j, w2.frozen? ⟨A.fb, j, none⟩ = false := fun j => HCB.out.frozen j
  have g0 : w2.cell? ⟨A.fb, i * 6, none⟩ = some (.int .i64 (d.room i)) := f0
  have gg : ∀ (k : Nat) (v : Value), (frC d i)[k]? = some v → w2.cell? ⟨A.fb, i * 6 + k, none⟩ = some v := fun k v hv => by rw [HCB.out.cell]; exact HCC.out i hi k v hv
  have g1 := gg 1 _ rfl
  have g2 := gg 2 _ rfl
  have g3 := gg 3 _ rfl
  have g4 := gg 4 _ rfl
  have g5 := gg 5 _ rfl
  clear gg
  go_simp
  have hfr6 : Frs ((((((w2.setCell ⟨A.fb, i * 6, none⟩ (.int .i64 (d.room i))).setCell ⟨A.fb, i * 6 + 1, none⟩ (.int .i64 0)).setCell ⟨A.fb, i * 6 + 2, none⟩ (.int .i64 0)).setCell ⟨A.fb, i * 6 + 3, none⟩ (.bool false)).setCell ⟨A.fb, i * 6 + 4, none⟩ (.bool false)).setCell ⟨A.fb, i * 6 + 5, none⟩ (.bool false)) A (d.vac i) := HFR2.out.set6 hi rfl (by simp [frC, Pd.vac, setB, I64]) (fun j hj => by simp [frC, Pd.vac, setB, hj])
  have hF6 : Fr (· = A.fb) w2 ((((((w2.setCell ⟨A.fb, i * 6, none⟩ (.int .i64 (d.room i))).setCell ⟨A.fb, i * 6 + 1, none⟩ (.int .i64 0)).setCell ⟨A.fb, i * 6 + 2, none⟩ (.int .i64 0)).setCell ⟨A.fb, i * 6 + 3, none⟩ (.bool false)).setCell ⟨A.fb, i * 6 + 4, none⟩ (.bool false)).setCell ⟨A.fb, i * 6 + 5, none⟩ (.bool false)) := ((((((Fr.refl (· = A.fb) w2).set_ (p := ⟨A.fb, i * 6, none⟩) rfl _).set_ (p := ⟨A.fb, i * 6 + 1, none⟩) rfl _).set_ (p := ⟨A.fb, i * 6 + 2, none⟩) rfl _).set_ (p := ⟨A.fb, i * 6 + 3, none⟩) rfl _).set_ (p := ⟨A.fb, i * 6 + 4, none⟩) rfl _).set_ (p := ⟨A.fb, i * 6 + 5, none⟩) rfl _
  have hP6 : Blk ((((((w2.setCell ⟨A.fb, i * 6, none⟩ (.int .i64 (d.room i))).setCell ⟨A.fb, i * 6 + 1, none⟩ (.int .i64 0)).setCell ⟨A.fb, i * 6 + 2, none⟩ (.int .i64 0)).setCell ⟨A.fb, i * 6 + 3, none⟩ (.bool false)).setCell ⟨A.fb, i * 6 + 4, none⟩ (.bool false)).setCell ⟨A.fb, i * 6 + 5, none⟩ (.bool false)) A.p 102 (pgC A d) := HP2.out.fr hF6 (Ne.symm H.out.pfb)
  obtain ⟨Y, eY⟩ : ∃ Y, Y = ((((((w2.setCell ⟨A.fb, i * 6, none⟩ (.int .i64 (d.room i))).setCell ⟨A.fb, i * 6 + 1, none⟩ (.int .i64 0)).setCell ⟨A.fb, i * 6 + 2, none⟩ (.int .i64 0)).setCell ⟨A.fb, i * 6 + 3, none⟩ (.bool false)).setCell ⟨A.fb, i * 6 + 4, none⟩ (.bool false)).setCell ⟨A.fb, i * 6 + 5, none⟩ (.bool false)) := ⟨_, rfl⟩
  rw [← eY] at hfr6 hF6 hP6 ⊢
  have HFR6 := Lib.hid hfr6
  have HF6 := Lib.hid hF6
  have HP6 := Lib.hid hP6
  have hS6 : Y.drew.cell? ⟨A.p, 2, none⟩ = some (.slice (some ⟨A.fb, 0, none⟩) d.n A.cap) ∧ Y.drew.cell? ⟨A.fb, i * 6, none⟩ = some (.int .i64 (d.room i)) := by
    refine ⟨hP6.cell 2, ?_⟩
    obtain ⟨cur6, hb6, hc6⟩ := hfr6
    have := hc6 i hi 0 (I64 (d.room i)) rfl
    rw [Nat.add_zero, ← hb6.cell] at this
    exact this
  clear hfr6 hF6 hP6 eY zz g0 g1 g2 g3 g4 g5
  refine hK.out _ _ hS6 (fun hHeld => ?_)
  clear hK K
  try simp only [Act.put, List.setIfInBounds_toArray, List.set_cons_zero, List.set_cons_succ]
  refine wpAnyH_done (by kernel_rfl) ?_ _
  clear hHeld hS6
  go_end0
  have hf : Fr (fun k => k = A.sm ∨ k = A.fb) w Y.drew := (HF2.out.more (fun k hk => .inl hk)).trans ((HF6.out.drew).more (fun k hk => .inr hk))
  obtain ⟨q, hq, hst⟩ := HQ.out
  rw [HAB.out] at hst
  have h := H.out
  have hne : ∀ k, (k = A.sm ∨ k = A.fb) → k ≠ A.p := fun k hk => by rcases hk with rfl | rfl; exact h.psm; exact h.pfb
  refine ⟨rfl, ⟨HP6.out, HFR6.out, ⟨q, hq, hst.fr (S := (· = A.fb)) HF6.out.drew h.fsm⟩, h.bls.fr hf ?_, h.sto.fr hf ?_, h.ne1, h.ne2, h.ne3, h.n1, h.n2, h.cap1, h.cap2, h.hd, h.nof⟩, hf⟩
  · rintro (e | e)
    · exact h.ne1 e.symm
    · exact h.fbm e
  · intro k hk e
    rcases e with e | e
    · exact h.mine_sm (e ▸ hk)
    · exact h.mine_fb (e ▸ hk)
end Go.Proofs.Ytlnffcledpccjaa
/-
  pager.Pager.round; slices.IndexFunc at a pager's frames; vacant.
-/
namespace Go.Proofs.Ytlnffcledpccjaa
open Go.RowKit
set_option linter.unusedVariables false
set_option linter.unusedSimpArgs false
/-- how many of the first n frames are touched, read off the world -/
def tcW (w : World) (fb n : Nat) : Nat := ((List.range n).filter fun i => match w.cell? ⟨fb, i * 6 + 4, none⟩ with | some (.bool true) => true | _ => false).length
def tcF (f : Nat → Bool) : Nat → Nat
  | 0 => 0
  | n + 1 => tcF f n + if f n then 1 else 0
theorem tcF_set {f : Nat → Bool} {i : Nat} (h : f i = true) : ∀ n, i < n → tcF (setB f i false) n + 1 = tcF f n
  | 0, hi => by omega
  | n + 1, hi => by
    unfold tcF
    by_cases e : i = n
    · subst e
      have : ∀ m, m ≤ i → tcF (setB f i false) m = tcF f m := by
        intro m hm
        induction m with
        | zero => rfl
        | succ m ih => unfold tcF; rw [ih (by omega)]; simp [setB, show ¬ m = i from by omega]
      rw [this i (Nat.le_refl _)]
      simp [setB, h]
    · have := tcF_set h n (by omega)
      have e' : ¬ n = i := fun q => e q.symm
      simp only [setB, if_neg e']
      omega
theorem tc_lay {w : World} {A : Pa} {d : Pd} (h : Lay w A d) : tcW w A.fb d.n = tcF d.th d.n := by
  have : ∀ n, n ≤ d.n → tcW w A.fb n = tcF d.th n := by
    intro n
    induction n with
    | zero => intro _; rfl
    | succ n ih =>
      intro hn
      have hc : w.cell? ⟨A.fb, n * 6 + 4, none⟩ = some (.bool (d.th n)) := h.fcell (by omega) 4 rfl
      unfold tcF
      rw [← ih (by omega)]
      unfold tcW
      rw [List.range_succ, List.filter_append, List.length_append]
      congr 1
      cases hb : d.th n with
      | true => rw [hb] at hc; simp [hc]
      | false => rw [hb] at hc; simp [hc]
  exact this _ (Nat.le_refl _)
theorem PI.thhand {d : Pd} {mem : List Nat} {C : Nat × Nat → List Nat} {W : List (Nat × Nat)} {E : Nat × Nat → Prop} (h : PI d mem C W E) (th : Nat → Bool) (hand : Nat) : PI { d with th := th, hand := hand } mem C W E :=
  ⟨h.rin, h.rap, h.st, h.sm, h.len, h.cont, h.bin, h.inj, h.cb, h.cz, h.cl, h.wb, h.wc, h.un⟩
def RdPost (A : Pa) (d : Pd) (w : World) (e : Ending) (w' : World) : Prop :=
  ∃ (j : Nat) (th : Nat → Bool) (hand : Nat), j < d.n ∧ e = .returned (.int .i64 j) ∧ Lay w' A { d with th := th, hand := hand } ∧ Fr (fun k => k = A.p ∨ k = A.fb) w w'
set_option maxHeartbeats 1000000 in
set_option maxRecDepth 100000 in
theorem round_ok {w : World} {A : Pa} {d : Pd} (h : Lay w A d) : Calls Try.prog 103 #[.pointer (some ⟨A.p, 0, none⟩)] w (RdPost A d w) := by
  have hn1 := h.n1
  have hn2 := h.n2
  have hcap := h.cap1
  have hcap2 : A.cap ≤ 9223372036854775807 := h.cap2
  have H := Lib.hid h
  clear h
  go_enter Try.func103, Try.ntmps103
  go_wp2
  go_loopw [3] (fun v3 wr => ∃ (th : Nat → Bool) (hand : Nat), Hid (Lay wr A { d with th := th, hand := hand }) ∧ Hid (Fr (fun k => k = A.p ∨ k = A.fb) w wr)) (fun _ wr => tcW wr A.fb d.n)
  case atStart => exact ⟨d.th, d.hand, H, Lib.hid (Fr.refl _ _)⟩
  case round =>
    obtain ⟨th, hand, HL, HF⟩ := hrel
    have hh : hand < d.n := HL.out.hd
    have c5 : wr.cell? ⟨A.p, 5, none⟩ = some (.int .i64 hand) := HL.out.blk.cell 5
    have c2 : wr.cell? ⟨A.p, 2, none⟩ = some (.slice (some ⟨A.fb, 0, none⟩) d.n A.cap) := HL.out.blk.cell 2
    have z5 := HL.out.blk.frozen 5
    obtain ⟨h', eh⟩ : ∃ h', h' = (hand + 1) % d.n := ⟨_, rfl⟩
    have hl' : h' < d.n := by rw [eh]; exact Nat.mod_lt _ (by omega)
    have hmod : ((hand : Int) + 1) % (d.n : Int) = (h' : Int) := by rw [eh]; push_cast; rfl
    have HL1 := Lib.hid (HL.out.sethand hl')
    have f4 : (wr.setCell ⟨A.p, 5, none⟩ (.int .i64 h')).cell? ⟨A.fb, hand * 6 + 4, none⟩ = some (.bool (th hand)) := HL1.out.fcell hh 4 rfl
    have c2' : (wr.setCell ⟨A.p, 5, none⟩ (.int .i64 h')).cell? ⟨A.p, 2, none⟩ = some (.slice (some ⟨A.fb, 0, none⟩) d.n A.cap) := HL1.out.blk.cell 2
    have z4 := HL1.out.ffrozen (hand * 6 + 4)
    clear eh
    cases hb : th hand with
    | false =>
      rw [hb] at f4
      clear hb
      go_wp2
      go_ret
      exact ⟨hand, th, h', hh, rfl, HL1.out, HF.out.set_ (p := ⟨A.p, 5, none⟩) (.inl rfl) _⟩
    | true =>
      rw [hb] at f4
      have HB := Lib.hid hb
      clear hb
      go_wp2
      go_roundw
      case rel => exact ⟨setB th hand false, h', Lib.hid (HL1.out.setth hh false), Lib.hid ((HF.out.set_ (p := ⟨A.p, 5, none⟩) (.inl rfl) _).set_ (p := ⟨A.fb, hand * 6 + 4, none⟩) (.inr rfl) _)⟩
      case measure =>
        have e1 := tc_lay HL.out
        have e2 := tc_lay (HL1.out.setth hh false)
        have e3 := tcF_set HB.out d.n hh
        simp only at e1 e2
        rw [e1, e2]
        omega
set_option maxRecDepth 100000 in
theorem cls_ok (r a b : Nat) (tk th ch : Bool) (w : World) : Calls Try.prog 102 #[.agg #[.int .i64 r, .int .i64 a, .int .i64 b, .bool tk, .bool th, .bool ch]] w fun e w' => e = .returned (.bool (!tk)) ∧ Below w.heap.size w w' := by
  go_enter Try.func102, Try.ntmps102
  go_wp2
  go_ret
  exact ⟨rfl, (Below.refl _ _).alloc (Nat.le_refl _) _⟩
def lfree (d : Pd) : Nat → Option Nat
  | 0 => none
  | n + 1 => match lfree d n with | some j => some j | none => if d.tk n then none else some n
theorem lfree_some {d : Pd} : ∀ {n j : Nat}, lfree d n = some j → j < n ∧ d.tk j = false
  | n + 1, j, h => by
    unfold lfree at h
    cases e : lfree d n with
    | some k =>
      rw [e] at h
      have := lfree_some e
      injection h with h
      subst h
      exact ⟨by omega, this.2⟩
    | none =>
      rw [e] at h
      simp only at h
      split at h
      · cases h
      · rename_i ht
        injection h with h
        subst h
        exact ⟨by omega, by simpa using ht⟩
theorem lfree_none {d : Pd} : ∀ {n : Nat}, lfree d n = none → ∀ j, j < n → d.tk j = true
  | 0, _, j, hj => by omega
  | n + 1, h, j, hj => by
    unfold lfree at h
    cases e : lfree d n with
    | some k => rw [e] at h; cases h
    | none =>
      rw [e] at h
      simp only at h
      by_cases q : j = n
      · subst q
        cases ht : d.tk j with
        | true => rfl
        | false => rw [ht] at h; simp at h
      · exact lfree_none e j (by omega)
def ixv (d : Pd) : Int := match lfree d d.n with | some j => (j : Int) | none => -1
def IxPost (d : Pd) (w : World) (e : Ending) (w' : World) : Prop := e = .returned (.int .i64 (ixv d)) ∧ Below w.heap.size w w'
theorem ixv_some {d : Pd} {k : Nat} (hk : k < d.n) (hn : lfree d k = none) (ht : d.tk k = false) : ixv d = (k : Int) := by
  have : ∀ n, k < n → lfree d n = some k := by
    intro n
    induction n with
    | zero => intro h; omega
    | succ n ih =>
      intro h
      unfold lfree
      by_cases e : k = n
      · subst e; rw [hn]; simp [ht]
      · rw [ih (by omega)]
  unfold ixv
  rw [this d.n hk]
set_option maxHeartbeats 1000000 in
set_option maxRecDepth 100000 in
theorem index_ok {w : World} {A : Pa} {d : Pd} (h : Lay w A d) : Calls Try.prog 101 #[.slice (some ⟨A.fb, 0, none⟩) d.n A.cap, .func (.func 102) #[] #[]] w (IxPost d w) := by
  have hn1 := h.n1
  have hn2 := h.n2
  have hcap := h.cap1
  have hcap2 : A.cap ≤ 9223372036854775807 := h.cap2
  have H := Lib.hid h
  clear h
  go_enter Try.func101, Try.ntmps101
  go_wp2
  go_loopw [5, 8] (fun v5 v8 wr => ∃ k : Nat, k ≤ d.n ∧ v8 = .int .i64 k ∧ Hid (lfree d k = none) ∧ Hid (Below w.heap.size w wr)) (fun _ v8 _ => d.n - (intOf v8).toNat)
  case atStart => exact ⟨0, Nat.zero_le _, rfl, Lib.hid rfl, Lib.hid (Below.refl _ _)⟩
  case round =>
    obtain ⟨k, hk, rfl, HN, HB⟩ := hrel
    by_cases hlt : k < d.n
    · have HL := Lib.hid (H.out.below HB.out)
      have g0 : wr.cell? ⟨A.fb, k * 6, none⟩ = some (.int .i64 (d.room k)) := HL.out.fcell hlt 0 rfl
      have g1 : wr.cell? ⟨A.fb, k * 6 + 1, none⟩ = some (.int .i64 (d.pg k).1) := HL.out.fcell hlt 1 rfl
      have g2 : wr.cell? ⟨A.fb, k * 6 + 2, none⟩ = some (.int .i64 (d.pg k).2) := HL.out.fcell hlt 2 rfl
      have g3 : wr.cell? ⟨A.fb, k * 6 + 3, none⟩ = some (.bool (d.tk k)) := HL.out.fcell hlt 3 rfl
      have g4 : wr.cell? ⟨A.fb, k * 6 + 4, none⟩ = some (.bool (d.th k)) := HL.out.fcell hlt 4 rfl
      have g5 : wr.cell? ⟨A.fb, k * 6 + 5, none⟩ = some (.bool (d.ch k)) := HL.out.fcell hlt 5 rfl
      cases ht : d.tk k with
      | true =>
        rw [ht] at g3
        have HT := Lib.hid ht
        clear ht
        go_wp2_with (go_at_call 102; refine (cls_ok _ _ _ true _ _ _).mono ?_; rintro e w2 ⟨rfl, h2⟩; have H2 := Lib.hid h2; clear h2)
        go_roundw
        case rel => exact ⟨k + 1, by omega, by go_num, Lib.hid (by unfold lfree; rw [HN.out]; simp [HT.out]), Lib.hid (HB.out.trans (H2.out.mono HB.out.size))⟩
        case measure => simp [intOf]; omega
      | false =>
        rw [ht] at g3
        have HT := Lib.hid ht
        clear ht
        go_wp2_with (go_at_call 102; refine (cls_ok _ _ _ false _ _ _).mono ?_; rintro e w2 ⟨rfl, h2⟩; have H2 := Lib.hid h2; clear h2)
        go_ret
        exact ⟨ret_int (ixv_some hlt HN.out HT.out).symm, HB.out.trans (H2.out.mono HB.out.size)⟩
    · obtain rfl : k = d.n := by omega
      go_wp2
      go_ret
      exact ⟨ret_int (by unfold ixv; rw [HN.out]), HB.out⟩
/-- what is done with a pager leaves it one -/
structure Mv (A : Pa) (d d' : Pd) (mem' : List Nat) (C' : Nat × Nat → List Nat) (W : List (Nat × Nat)) (N : Nat) (w w' : World) : Prop where
  lay : Lay w' A d'
  pi : PI d' mem' C' W (fun _ => False)
  n : d'.n = d.n
  room : d'.room = d.room
  size : d'.sd.size = d.sd.size
  cap : d'.sd.cap = d.sd.cap
  ops : d'.sd.ops ≤ d.sd.ops + N
  fr : Fr (foot A d) w w'
  ft : ∀ k, foot A d' k → foot A d k ∨ w.heap.size ≤ k
  chg : ∀ k, d'.ch k = true → d.ch k = true ∧ d'.pg k = d.pg k
theorem Mv.trans {A : Pa} {d d1 d2 : Pd} {mem1 mem2 : List Nat} {C1 C2 : Nat × Nat → List Nat} {W1 W2 : List (Nat × Nat)} {N1 N2 : Nat} {w w1 w2 : World} (h : Mv A d d1 mem1 C1 W1 N1 w w1) (k : Mv A d1 d2 mem2 C2 W2 N2 w1 w2) : Mv A d d2 mem2 C2 W2 (N1 + N2) w w2 :=
  ⟨k.lay, k.pi, k.n.trans h.n, k.room.trans h.room, k.size.trans h.size, k.cap.trans h.cap, by have := h.ops; have := k.ops; omega, h.fr.trans_new k.fr (fun i hi => h.ft i hi), fun i hi => by
    rcases k.ft i hi with q | q
    · exact h.ft i q
    · exact .inr (Nat.le_trans h.fr.size q), fun i hi => by
    obtain ⟨a1, a2⟩ := k.chg i hi
    obtain ⟨b1, b2⟩ := h.chg i a1
    exact ⟨b1, a2.trans b2⟩⟩
theorem Mv.still {A : Pa} {d : Pd} {mem : List Nat} {C : Nat × Nat → List Nat} {W : List (Nat × Nat)} {w w' : World} (h : Lay w A d) (hp : PI d mem C W (fun _ => False)) (hf : Fr (fun _ => False) w w') : Mv A d d mem C W 0 w w' :=
  ⟨h.fr hf (fun _ _ q => q), hp, rfl, rfl, rfl, rfl, Nat.le_refl _, hf.more (fun _ q => q.elim), fun k hk => .inl hk, fun _ q => ⟨q, rfl⟩⟩
theorem Svd.mv {A : Pa} {d d' : Pd} {mem : List Nat} {C : Nat × Nat → List Nat} {W : List (Nat × Nat)} {i : Nat} {w w' : World} (h : Svd A d d' mem C W i w w') : Mv A d d' mem C W 2 w w' :=
  ⟨h.lay, h.pi, h.n, h.room, h.size, h.cap, h.ops, h.fr, h.ft, fun i q => ⟨h.chg i q, by rw [h.pg]⟩⟩
theorem vac_chg {d : Pd} {j i : Nat} (q : (d.vac j).ch i = true) : d.ch i = true ∧ (d.vac j).pg i = d.pg i := by
  by_cases e : i = j
  · simp [Pd.vac, setB, e] at q
  · refine ⟨by simpa [Pd.vac, setB, e] using q, by simp [Pd.vac, e]⟩
def VtPost (A : Pa) (d : Pd) (mem : List Nat) (C : Nat × Nat → List Nat) (W : List (Nat × Nat)) (w : World) (e : Ending) (w' : World) : Prop :=
  ∃ (j : Nat) (d' : Pd), j < d.n ∧ e = .returned (.tuple #[.int .i64 j, .int .i64 0]) ∧ Mv A d d' mem C W 2 w w' ∧ d'.tk j = false ∧ ∀ x, d.st x = none → d'.st x = none
set_option maxHeartbeats 2000000 in
set_option maxRecDepth 100000 in
theorem vacant_ok {w : World} {A : Pa} {d : Pd} {C : Nat × Nat → List Nat} {W : List (Nat × Nat)} {bb rm gm : Nat} {ad : Ad} (h : Lay w A d) (ha : Are w A.a bb rm gm ad) (hdis : ∀ k, ad.mine A.a bb rm gm k → ¬ foot A d k) (hp : PI d ad.mem C W (fun _ => False)) (ho : d.sd.ops < 900000) (hW : W.length ≤ d.sd.cap) :
    Calls Try.prog 86 #[.pointer (some ⟨A.p, 0, none⟩)] w (VtPost A d ad.mem C W w) := by
  have c2 : w.cell? ⟨A.p, 2, none⟩ = some (.slice (some ⟨A.fb, 0, none⟩) d.n A.cap) := h.blk.cell 2
  have hn2 := h.n2
  have HI := Lib.hid (index_ok h)
  unfold IxPost at HI
  have H := Lib.hid h
  have HA := Lib.hid ha
  have HP := Lib.hid hp
  have HD := Lib.hid hdis
  cases hf : lfree d d.n with
  | some j =>
    have hx : ixv d = (j : Int) := by unfold ixv; rw [hf]
    rw [hx] at HI
    have HF := Lib.hid (lfree_some hf)
    have hj := (lfree_some hf).1
    clear h ha hp hdis hf hx
    go_enter Try.func86, Try.ntmps86
    go_wp2_with (go_at_call 101; refine HI.out.mono ?_; rintro e w1 ⟨rfl, h1⟩; have H1 := Lib.hid h1; clear h1)
    go_ret2
    have hm := Mv.still H.out HP.out (Fr.of_below (S := fun _ => False) H1.out)
    exact ⟨j, d, hj, rfl, ⟨hm.lay, hm.pi, hm.n, hm.room, hm.size, hm.cap, Nat.le_add_right _ _, hm.fr, hm.ft, hm.chg⟩, HF.out.2, fun x hx => hx⟩
  | none =>
    have hx : ixv d = -1 := by unfold ixv; rw [hf]
    rw [hx] at HI
    have HF := Lib.hid (lfree_none hf)
    clear h ha hp hdis hf hx
    go_enter Try.func86, Try.ntmps86
    go_wp2_with (first
      | (go_at_call 101; refine HI.out.mono ?_; rintro e w1 ⟨rfl, h1⟩; have H1 := Lib.hid h1; have HL1 := Lib.hid (H.out.below h1); clear h1)
      | (go_at_call 103
         refine (round_ok HL1.out).mono ?_
         rintro e w2 ⟨j, th, hand, hj, rfl, h2, f2⟩
         have HL2 := Lib.hid h2
         have HF2 := Lib.hid f2
         have HP2 := Lib.hid (HP.out.thhand th hand)
         have HA2 : Hid (Are w2 A.a bb rm gm ad) := Lib.hid ((HA.out.below H1.out (Nat.le_refl _)).fr f2 (fun k hk q => HD.out k hk (by rcases q with q | q; exact .inl q; exact .inr (.inl q))))
         clear h2 f2)
      | (go_at_call 47
         refine (save_yes HL2.out HA2.out HP2.out j hj (HF.out j hj) ho hW).mono ?_
         rintro e w3 ⟨rfl, d3, hs⟩
         have HS := Lib.hid hs
         clear hs)
      | (go_at_call 46
         refine (vacate_ok HS.out.lay j (by rw [HS.out.n]; exact hj) (HS.out.pi.sm j (by rw [HS.out.n]; exact hj))).mono ?_
         rintro e w4 ⟨rfl, h4, f4⟩
         have HL4 := Lib.hid h4
         have HF4 := Lib.hid f4
         clear h4 f4))
    go_ret2
    have ht : d.tk j = true := HF.out j hj
    have hs := HS.out
    have ht3 : d3.tk j = true := by rw [hs.tk]; exact ht
    have hj3 : j < d3.n := by rw [hs.n]; exact hj
    have hpg3 : d3.pg j = d.pg j := by rw [hs.pg]
    have hpi4 : PI (d3.vac j) ad.mem C W (fun _ => False) := hs.pi.vac hj3 ht3 (fun _ => by rw [hpg3, hs.size]; exact hs.saved ht)
    have m12 : Mv A d { d with th := th, hand := hand } ad.mem C W 0 w w2 := ⟨HL2.out, HP2.out, rfl, rfl, rfl, rfl, Nat.le_refl _, (Fr.of_below H1.out).trans (HF2.out.more (fun k hk => by rcases hk with q | q; exact .inl q; exact .inr (.inl q))), fun k hk => .inl hk, fun _ q => ⟨q, rfl⟩⟩
    have m34 : Mv A d3 (d3.vac j) ad.mem C W 0 w3 w4 := ⟨HL4.out, hpi4, rfl, rfl, rfl, rfl, Nat.le_refl _, HF4.out.more (fun k hk => by rcases hk with q | q; exact .inr (.inr (.inl q)); exact .inr (.inl q)), fun k hk => .inl hk, fun i q => vac_chg q⟩
    have hm := (m12.trans hs.mv).trans m34
    refine ⟨j, d3.vac j, hj, rfl, hm, by simp [Pd.vac, setB], fun x hx => ?_⟩
    show upd d3.st (d3.pg j) none x = none
    have : d3.st x = none := by rw [hs.st]; exact hx
    by_cases e : x = d3.pg j
    · rw [e, upd_same]
    · rw [upd_other _ _ _ e]; exact this
end Go.Proofs.Ytlnffcledpccjaa
/-
  Bytes put in a piece of memory; a page is brought into a frame; bytes of a standing page are written (plain facts).
-/
namespace Go.Proofs.Ytlnffcledpccjaa
open Go.RowKit
set_option linter.unusedVariables false
theorem putM_get {mem l : List Nat} {p : Nat} (h : p + l.length ≤ mem.length) (q : Nat) : (putM mem p l)[q]? = if q < p then mem[q]? else if q < p + l.length then l[q - p]? else mem[q]? := by
  unfold putM
  by_cases h1 : q < p
  · rw [if_pos h1, List.getElem?_append_left (by rw [List.length_take]; omega), List.getElem?_take_of_lt h1]
  · rw [if_neg h1, List.getElem?_append_right (by rw [List.length_take]; omega), List.length_take, show q - min p mem.length = q - p from by omega]
    by_cases h2 : q < p + l.length
    · rw [if_pos h2, List.getElem?_append_left (by omega)]
    · rw [if_neg h2, List.getElem?_append_right (by omega), List.getElem?_drop]
      congr 1
      omega
theorem putM_len {mem l : List Nat} {p : Nat} (h : p + l.length ≤ mem.length) : (putM mem p l).length = mem.length := by
  unfold putM
  simp
  omega
theorem slice_get (mem : List Nat) (r sz q : Nat) : ((mem.drop r).take sz)[q]? = if q < sz then mem[r + q]? else none := by
  by_cases h : q < sz
  · rw [if_pos h, List.getElem?_take_of_lt h, List.getElem?_drop]
  · rw [if_neg h, List.getElem?_eq_none (by rw [List.length_take]; omega)]
theorem putM_in' {mem l : List Nat} {r o sz : Nat} (h : r + sz ≤ mem.length) (ha : o + l.length ≤ sz) : ((putM mem (r + o) l).drop r).take sz = putM ((mem.drop r).take sz) o l := by
  apply List.ext_getElem?
  intro q
  have hl : ((mem.drop r).take sz).length = sz := by rw [List.length_take, List.length_drop]; omega
  rw [slice_get, putM_get (by omega), putM_get (by omega), slice_get]
  by_cases h1 : q < sz
  · rw [if_pos h1, if_pos h1]
    by_cases h2 : q < o
    · rw [if_pos h2, if_pos (by omega)]
    · rw [if_neg h2, if_neg (by omega)]
      by_cases h3 : q < o + l.length
      · rw [if_pos h3, if_pos (by omega), show r + q - (r + o) = q - o from by omega]
      · rw [if_neg h3, if_neg (by omega)]
  · rw [if_neg h1, if_neg h1, if_neg (by omega), if_neg (by omega)]
theorem putM_all {X l : List Nat} (h : l.length = X.length) : putM X 0 l = l := by
  unfold putM
  rw [List.drop_eq_nil_of_le (by omega)]
  simp
theorem putM_out {mem l : List Nat} {p r sz : Nat} (h : p + l.length ≤ mem.length) (hd : r + sz ≤ p ∨ p + l.length ≤ r) : ((putM mem p l).drop r).take sz = (mem.drop r).take sz := by
  apply List.ext_getElem?
  intro q
  rw [slice_get, slice_get]
  by_cases h1 : q < sz
  · rw [if_pos h1, if_pos h1, putM_get h]
    rcases hd with hd | hd
    · rw [if_pos (by omega)]
    · rw [if_neg (by omega), if_neg (by omega)]
  · rw [if_neg h1, if_neg h1]
/-- page x is brought into frame j -/
def Pd.brg (d : Pd) (j : Nat) (x : Nat × Nat) : Pd := { d with st := upd d.st x (some j), pg := fun k => if k = j then x else d.pg k, tk := setB d.tk j true }
theorem PI.brg {d : Pd} {mem : List Nat} {C : Nat × Nat → List Nat} {W : List (Nat × Nat)} (h : PI d mem C W (fun _ => False)) {j : Nat} {x : Nat × Nat} (hj : j < d.n) (ht : d.tk j = false) (hx : d.st x = none) (hs : small x) : PI (d.brg j x) (putM mem (d.room j) (C x)) C W (fun _ => False) := by
  have hl := (h.len x).1
  have hr := h.rin j hj
  have hpl : d.room j + (C x).length ≤ mem.length := by omega
  have hpj : (d.brg j x).pg j = x := by simp [Pd.brg]
  have hpo : ∀ k, k ≠ j → (d.brg j x).pg k = d.pg k := fun k hk => by simp [Pd.brg, hk]
  have hto : ∀ k, k ≠ j → (d.brg j x).tk k = d.tk k := fun k hk => by simp [Pd.brg, setB, hk]
  have hcj := h.un j hj ht
  refine ⟨fun i hi => by rw [putM_len hpl]; exact h.rin i hi, h.rap, fun y i => ?_, fun i hi => ?_, h.len, fun i hi hti _ => ?_, h.bin, h.inj, fun y id hE hy hb => ?_, fun y hE hy hb => ?_, fun i hi hti hE hc => ?_, h.wb, fun i hi hti hc => ?_, fun i hi hti => ?_⟩
  · show upd d.st x (some j) y = some i ↔ i < d.n ∧ (d.brg j x).tk i = true ∧ (d.brg j x).pg i = y
    by_cases e : y = x
    · subst e
      rw [upd_same]
      constructor
      · intro q
        injection q with q
        subst q
        exact ⟨hj, by simp [Pd.brg, setB], hpj⟩
      · rintro ⟨q1, q2, q3⟩
        by_cases ei : i = j
        · rw [ei]
        · rw [hpo i ei] at q3
          rw [hto i ei] at q2
          have := (h.st y i).2 ⟨q1, q2, q3⟩
          rw [hx] at this; cases this
    · rw [upd_other _ _ _ e, h.st y i]
      constructor
      · rintro ⟨q1, q2, q3⟩
        have ei : i ≠ j := fun q => by rw [q, ht] at q2; cases q2
        exact ⟨q1, by rw [hto i ei]; exact q2, by rw [hpo i ei]; exact q3⟩
      · rintro ⟨q1, q2, q3⟩
        by_cases ei : i = j
        · rw [ei, hpj] at q3; exact absurd q3.symm e
        · exact ⟨q1, by rw [← hto i ei]; exact q2, by rw [← hpo i ei]; exact q3⟩
  · by_cases ei : i = j
    · rw [ei, hpj]; exact hs
    · rw [hpo i ei]; exact h.sm i hi
  · show ((putM mem (d.room j) (C x)).drop (d.room i)).take d.sd.size = C ((d.brg j x).pg i)
    by_cases ei : i = j
    · subst ei
      rw [hpj]
      have := putM_in' (mem := mem) (l := C x) (r := d.room i) (o := 0) (sz := d.sd.size) hr (by omega)
      rw [Nat.add_zero] at this
      rw [this, putM_all (by rw [List.length_take, List.length_drop]; omega)]
    · rw [hpo i ei]
      rw [putM_out hpl (by have := h.rap i j hi hj ei; rw [hl]; exact this)]
      exact h.cont i hi (by rw [← hto i ei]; exact hti) (fun q => q)
  · have e : y ≠ x := fun q => by
      have hy' : upd d.st x (some j) y = none := hy
      rw [q, upd_same] at hy'; cases hy'
    exact h.cb y id hE (by rw [← hy]; exact (upd_other _ _ _ e).symm) hb
  · have e : y ≠ x := fun q => by
      have hy' : upd d.st x (some j) y = none := hy
      rw [q, upd_same] at hy'; cases hy'
    exact h.cz y hE (by rw [← hy]; exact (upd_other _ _ _ e).symm) hb
  · by_cases ei : i = j
    · subst ei
      rw [hpj]
      exact ⟨fun id hid => (h.cb x id (fun q => q) hx hid).1, fun hn => h.cz x (fun q => q) hx hn⟩
    · rw [hpo i ei]
      exact h.cl i hi (by rw [← hto i ei]; exact hti) (fun q => q) hc
  · by_cases ei : i = j
    · subst ei
      have hc' : d.ch i = true := hc
      rw [hcj] at hc'; cases hc'
    · rw [hpo i ei]
      exact h.wc i hi (by rw [← hto i ei]; exact hti) hc
  · by_cases ei : i = j
    · simp [Pd.brg, setB, ei] at hti
    · exact h.un i hi (by rw [← hto i ei]; exact hti)
/-- the page that stands in frame i is written -/
theorem PI.write {d : Pd} {mem : List Nat} {C : Nat × Nat → List Nat} {W : List (Nat × Nat)} (h : PI d mem C W (fun _ => False)) {i o : Nat} {l : List Nat} {b : Bool} (hi : i < d.n) (ht : d.tk i = true) (ho : o + l.length ≤ d.sd.size) (hx : ∀ y ∈ l, y < 256) (hb : b = (d.ch i || decide (0 < l.length))) :
    PI { d with ch := setB d.ch i b } (putM mem (d.room i + o) l) (upd C (d.pg i) (putM (C (d.pg i)) o l)) (d.pg i :: W) (fun _ => False) := by
  have hl := (h.len (d.pg i)).1
  have hr := h.rin i hi
  have hpl : d.room i + o + l.length ≤ mem.length := by omega
  have hne : ∀ y, d.st y = none → y ≠ d.pg i := fun y hy e => by rw [e, h.stand hi ht] at hy; cases hy
  have hinj : ∀ k, k < d.n → d.tk k = true → d.pg k = d.pg i → k = i := fun k hk htk e => by
    have h1 := h.stand hk htk
    rw [e, h.stand hi ht] at h1
    exact (Option.some.inj h1).symm
  refine ⟨fun k hk => by rw [putM_len hpl]; exact h.rin k hk, h.rap, h.st, h.sm, fun y => ?_, fun k hk htk _ => ?_, h.bin, h.inj, fun y id hE hy hq => ?_, fun y hE hy hq => ?_, fun k hk htk hE hc => ?_, fun y hy => List.mem_cons_of_mem _ (h.wb y hy), fun k hk htk hc => ?_, fun k hk htk => ?_⟩
  · by_cases e : y = d.pg i
    · rw [e, upd_same]
      refine ⟨by rw [putM_len (by omega)]; exact hl, fun z hz => ?_⟩
      unfold putM at hz
      rw [List.mem_append, List.mem_append] at hz
      rcases hz with q | q | q
      · exact (h.len _).2 z (List.mem_of_mem_take q)
      · exact hx z q
      · exact (h.len _).2 z (List.mem_of_mem_drop q)
    · rw [upd_other _ _ _ e]; exact h.len y
  · show ((putM mem (d.room i + o) l).drop (d.room k)).take d.sd.size = upd C (d.pg i) _ (d.pg k)
    by_cases ek : k = i
    · subst ek
      rw [upd_same, putM_in' hr ho, h.cont k hk htk (fun q => q)]
    · rw [upd_other _ _ _ (fun e => ek (hinj k hk htk e)), putM_out hpl ?_]
      · exact h.cont k hk htk (fun q => q)
      · have := h.rap k i hk hi ek
        omega
  · rw [upd_other _ _ _ (hne y hy)]
    exact h.cb y id hE hy hq
  · rw [upd_other _ _ _ (hne y hy)]
    exact h.cz y hE hy hq
  · show (∀ id, d.blk (d.pg k) = some id → d.sd.B id = some (upd C (d.pg i) _ (d.pg k))) ∧ (d.blk (d.pg k) = none → upd C (d.pg i) _ (d.pg k) = _)
    by_cases ek : k = i
    · subst ek
      have hc' : b = false := by simpa [setB] using hc
      rw [hc'] at hb
      have h1 : d.ch k = false := by cases q : d.ch k <;> simp [q] at hb ⊢
      have h2 : l = [] := by
        rcases Nat.eq_zero_or_pos l.length with q | q
        · exact List.eq_nil_of_length_eq_zero q
        · rw [h1, decide_eq_true q] at hb; cases hb
      have h3 : putM (C (d.pg k)) o l = C (d.pg k) := by
        rw [h2]; unfold putM
        simp
      rw [upd_same, h3]
      exact h.cl k hk htk (fun q => q) h1
    · have hc' : d.ch k = false := by simpa [setB, ek] using hc
      rw [upd_other _ _ _ (fun e => ek (hinj k hk htk e))]
      exact h.cl k hk htk (fun q => q) hc'
  · by_cases ek : k = i
    · rw [ek]; exact List.mem_cons_self
    · have hc' : d.ch k = true := by simpa [setB, ek] using hc
      exact List.mem_cons_of_mem _ (h.wc k hk htk hc')
  · have ek : k ≠ i := fun q => by
      have htk' : d.tk k = false := htk
      rw [q, ht] at htk'; cases htk'
    have := h.un k hk htk
    show setB d.ch i b k = false
    simp only [setB, if_neg ek]
    exact this
end Go.Proofs.Ytlnffcledpccjaa
