/-
  Texts of YtggfaalodojjkaaGreatDoorY8.
-/
import Derived.Test.YtggfaalodojjkaaGreatDoorY7
import Derived.BigGuard
import Derived.Deep.RegionHeld3
namespace Go.Proofs.YtggfaalodojjkaaGreatDoor
open Go.RowKit
set_option linter.unusedVariables false
set_option linter.unusedSimpArgs false
theorem own_oneW (V : World) (B : Nat) (z : Int) (hB : B ≤ V.heap.size) : (V.alloc (.cells #[.int .u64 z] 22)).ownsRow B 22 1 (.slice (some ⟨V.heap.size, 0, none⟩) 1 1) 1 ([z].map U64) :=
  ⟨by simp, .inr ⟨V.heap.size, 1, _, rfl, hB, heap_alloc_new V _, Nat.le_refl _, by unfold maxLen; omega, by simp, by simp [U64]⟩⟩
theorem sl_grown {w w' : World} {A : Option Addr} {n c : Nat} {l : List Int} {o : Option Nat} (h : Sl w A n c l) (hg : w.grownBy w' o) (hne : ∀ p, A = some p → ¬ o = some p.block) : Sl w' A n c l := by
  obtain ⟨h1, h2, h3, h4⟩ := h
  refine ⟨h1, h2, h3, fun h0 => ?_⟩
  obtain ⟨b, q, e, hb, hc⟩ := h4 h0
  have hf := Fr.grownV hg
  refine ⟨b, q, e, Nat.lt_of_lt_of_le hb hf.size, fun i hi => ?_⟩
  rw [← hc i hi]
  have := hf.block b hb (hne _ e)
  simp only [World.cell?, this]
theorem sl_of_own {w : World} {B n : Nat} {v : Value} {L : List Int} (h : w.ownsRow B 22 1 v n (L.map U64)) (hn : 0 < n) : ∃ A c, v = .slice A n c ∧ Sl w A n c L := by
  obtain ⟨g, cp, rfl, h1, h2⟩ := own_some h hn
  have hl : L.length = n := by have := h.1; simpa using this
  obtain ⟨cs, hb⟩ := own_ty h rfl
  refine ⟨_, _, rfl, hl, h1, h2, fun _ => ⟨g, 0, rfl, hb.lt, fun i hi => ?_⟩⟩
  rw [Nat.zero_add, h.cellAt i (by omega), List.getElem?_map, List.getD_eq_getElem?_getD, List.getElem?_eq_getElem (by omega)]
  rfl
/-- a row of words, then another one -/
theorem app_wd (w : World) (B g n cp m c : Nat) (A : Option Addr) (xs l : List Int) (h1 : w.ownsRow B 22 1 (.slice (some ⟨g, 0, none⟩) n cp) n (xs.map U64)) (h2 : Sl w A m c l) (hnm : n + m ≤ 200000) (hB : B ≤ w.heap.size) (hnp : n ≤ cp) :
    ∃ v' w', Hid (∀ ty, (Builtin.append_ #[23, 23] ty #[.slice (some ⟨g, 0, none⟩) n cp, .slice A m c]).run Tryz.prog w = .ok v' w') ∧ w'.ownsRow B 22 1 v' (n + m) ((xs ++ l).map U64) ∧ w.grownBy w' (some g) := by
  obtain ⟨i0, hi, hz0, hz1, hz2⟩ := info_parts info22
  obtain ⟨k1, k2, k3, k4⟩ := h2
  subst k1
  rcases Nat.eq_zero_or_pos l.length with h0 | h0
  · have hl : l = [] := List.eq_nil_of_length_eq_zero h0
    subst hl
    refine ⟨_, w, Lib.hid (fun ty => ?_), by simpa using h1, World.grownBy.refl _ _⟩
    cases A with
    | none => exact run_append_nothing _ 23 23 ty 22 i0 Tryz.underlying23 hi _ n cp hnp _ (Src.ofNil _ Tryz.underlying23 c)
    | some a => exact run_append_nothing _ 23 23 ty 22 i0 Tryz.underlying23 hi _ n cp hnp _ (Src.ofSlice _ Tryz.underlying23 a 0 c [] (by simp) (by simp) (by simp))
  · obtain ⟨g2, q, rfl, hg, hc⟩ := k4 h0
    have hr : ∀ ty, ∃ v' w', (Builtin.append_ #[23, 23] ty #[.slice (some ⟨g, 0, none⟩) n cp, .slice (some ⟨g2, q, none⟩) l.length c]).run Tryz.prog w = .ok v' w' ∧ w'.ownsRow B 22 1 v' (n + l.length) (xs.map U64 ++ l.map U64) ∧ w.grownBy w' (some g) := fun ty => by
      obtain ⟨v', w', q1, q2, q3, _⟩ := run_append_own_at (P := Tryz.prog) w B 23 ty 22 i0 _ 1 8 Tryz.underlying23 hi hz0 hz1 hz2 rfl (by decide) _ n _ h1 ⟨g2, q, none⟩ l.length c (l.map U64) (by simp) (fun j u hu => by
        have hj : j < l.length := by have := (List.getElem?_eq_some_iff.1 hu).1; simpa using this
        have e : (⟨g2, q, none⟩ : Addr).add j = ⟨g2, q + j, none⟩ := by cases j <;> simp [Addr.add]
        rw [e, hc j hj]
        rw [List.getElem?_map, List.getElem?_eq_getElem hj] at hu
        rw [List.getD_eq_getElem?_getD, List.getElem?_eq_getElem hj]
        exact hu) (fun u hu => by
        rw [List.mem_map] at hu
        obtain ⟨_, _, rfl⟩ := hu
        rfl) (by unfold maxLen; omega) (by omega) (by omega)
      exact ⟨v', w', q1, q2, q3⟩
    obtain ⟨v', w', q1, q2, q3⟩ := hr 0
    refine ⟨v', w', Lib.hid (fun ty => ?_), by rw [List.map_append]; exact q2, q3⟩
    rw [← q1]; rfl
set_option maxHeartbeats 4000000 in
set_option maxRecDepth 100000 in
theorem numbers_3 (cd a b al : Int) (A : Option Addr) (n c : Nat) (l : List Int) (w : World) (hl : Sl w A n c l) (hn : n ≤ 1000) : Calls Tryz.prog 34 #[.agg #[.int .i64 cd, .int .u64 a, .int .u64 b, .int .i64 al, .slice A n c], .int .i64 3] w (NuP ([(n : Int)] ++ l ++ [a]) w) := by
  obtain ⟨W0, hW0⟩ : ∃ V, V = w.alloc (.cells #[.int .i64 cd, .int .u64 a, .int .u64 b, .int .i64 al, .slice A n c] 30) := ⟨_, rfl⟩
  obtain ⟨bx, hbx⟩ : ∃ x, x = w.heap.size := ⟨_, rfl⟩
  have hb0 : Below w.heap.size w W0 := by rw [hW0]; exact (Below.refl _ _).alloc (Nat.le_refl _) _
  have hX0 : Blk W0 bx 30 #[.int .i64 cd, .int .u64 a, .int .u64 b, .int .i64 al, .slice A n c] := by rw [hW0, hbx]; exact Blk.new w 30 _
  have HB0 := Lib.hid hb0
  have HW0 := Lib.hid hW0
  have HBX := Lib.hid hbx
  have hnc := hl.2.1
  have hcm := hl.2.2.1
  unfold maxLen at hcm
  have HSL : Hid (∀ V, Below W0.heap.size W0 V → Sl V A n c l) := Lib.hid (fun V hV => hl.below (hb0.trans (hV.mono hb0.size)))
  have HKS : Hid (∀ V, Below W0.heap.size W0 V → V.cell? ⟨bx, 0, none⟩ = some (.int .i64 cd) ∧ V.cell? ⟨bx, 1, none⟩ = some (.int .u64 a) ∧ V.cell? ⟨bx, 2, none⟩ = some (.int .u64 b) ∧ V.cell? ⟨bx, 3, none⟩ = some (.int .i64 al) ∧ V.cell? ⟨bx, 4, none⟩ = some (.slice A n c)) := Lib.hid (fun V hV => by
    have hx := hX0.below hV hX0.lt
    exact ⟨hx.cell 0, hx.cell 1, hx.cell 2, hx.cell 3, hx.cell 4⟩)
  have HVD : Hid (Below W0.heap.size W0 W0.drew) := Lib.hid (below_drew (Below.refl _ _))
  have hks0 := HKS.out W0.drew HVD.out
  have hw : IntKind.u64.wrap (n : Int) = n := by rw [IntKind.wrap_u64]; omega
  clear hb0 hX0 hW0 hbx hl
  go_enter Tryz.func34, Tryz.ntmps34
  go_upto_region 1 with fail
  rw [← HBX.out]
  rw [← HW0.out]
  go_upto_region 5 with fail
  refine wp_region_noPanic ?_
  refine wp_region_held_drew (S := (fun W => W.cell? ⟨bx, 0, none⟩ = some (.int .i64 cd) ∧ W.cell? ⟨bx, 1, none⟩ = some (.int .u64 a) ∧ W.cell? ⟨bx, 2, none⟩ = some (.int .u64 b) ∧ W.cell? ⟨bx, 3, none⟩ = some (.int .i64 al) ∧ W.cell? ⟨bx, 4, none⟩ = some (.slice A n c))) (by kernel_rfl) hks0 (fun hHeld => ?_)
  refine wpAnyH_take (i := 0) (oi := ?oi_12) (v := ?_) ?hi_12 (by kernel_rfl) ?hf_12 (by kernel_rfl) ?hQ_12 ?hy_12 (by assumption) ?_
  case hi_12 => simp only [List.getElem?_toArray, List.getElem?_cons_zero, List.getElem?_cons_succ]; try rfl
  case hf_12 => kernel_rfl
  case hQ_12 => exact fun _ _ _ h => h
  case hy_12 =>
    refine Or.inl ⟨by rfl, ?_⟩
    intro W hSw
    obtain ⟨q0, q1, q2, q3, q4⟩ := hSw
    go_simp
    try with_reducible rfl
  try simp only [Act.put, List.setIfInBounds_toArray, List.set_cons_zero, List.set_cons_succ]
  refine wpAnyH_take (i := 1) (oi := ?oi_13) (v := ?_) ?hi_13 (by kernel_rfl) ?hf_13 (by kernel_rfl) ?hQ_13 ?hy_13 (by assumption) ?_
  case hi_13 => simp only [List.getElem?_toArray, List.getElem?_cons_zero, List.getElem?_cons_succ]; try rfl
  case hf_13 => kernel_rfl
  case hQ_13 => exact fun _ _ _ h => h
  case hy_13 =>
    refine Or.inl ⟨by rfl, ?_⟩
    intro W hSw
    obtain ⟨q0, q1, q2, q3, q4⟩ := hSw
    go_simp
    try with_reducible rfl
  try simp only [Act.put, List.setIfInBounds_toArray, List.set_cons_zero, List.set_cons_succ]
  refine wpAnyH_take (i := 2) (oi := ?oi_14) (v := ?_) ?hi_14 (by kernel_rfl) ?hf_14 (by kernel_rfl) ?hQ_14 ?hy_14 (by assumption) ?_
  case hi_14 => simp only [List.getElem?_toArray, List.getElem?_cons_zero, List.getElem?_cons_succ]; try rfl
  case hf_14 => kernel_rfl
  case hQ_14 => exact fun _ _ _ h => h
  case hy_14 =>
    refine Or.inl ⟨by rfl, ?_⟩
    intro W hSw
    obtain ⟨q0, q1, q2, q3, q4⟩ := hSw
    go_simp
    try with_reducible rfl
  try simp only [Act.put, List.setIfInBounds_toArray, List.set_cons_zero, List.set_cons_succ]
  refine wpAnyH_take (i := 3) (oi := ?oi_15) (v := ?_) ?hi_15 (by kernel_rfl) ?hf_15 (by kernel_rfl) ?hQ_15 ?hy_15 (by assumption) ?_
  case hi_15 => simp only [List.getElem?_toArray, List.getElem?_cons_zero, List.getElem?_cons_succ]; try rfl
  case hf_15 => kernel_rfl
  case hQ_15 => exact fun _ _ _ h => h
  case hy_15 =>
    refine Or.inl ⟨by rfl, ?_⟩
    intro W hSw
    obtain ⟨q0, q1, q2, q3, q4⟩ := hSw
    go_simp
    try with_reducible rfl
  try simp only [Act.put, List.setIfInBounds_toArray, List.set_cons_zero, List.set_cons_succ]
  refine wpAnyH_take (i := 5) (oi := ?oi_16) (v := ?_) ?hi_16 (by kernel_rfl) ?hf_16 (by kernel_rfl) ?hQ_16 ?hy_16 (by assumption) ?_
  case hi_16 => simp only [List.getElem?_toArray, List.getElem?_cons_zero, List.getElem?_cons_succ]; try rfl
  case hf_16 => kernel_rfl
  case hQ_16 => exact fun _ _ _ h => h
  case hy_16 =>
    refine Or.inl ⟨by rfl, ?_⟩
    intro W hSw
    obtain ⟨q0, q1, q2, q3, q4⟩ := hSw
    go_simp
    try with_reducible rfl
  try simp only [Act.put, List.setIfInBounds_toArray, List.set_cons_zero, List.set_cons_succ]
  refine wpAnyH_take (i := 6) (oi := ?oi_17) (v := ?_) ?hi_17 (by kernel_rfl) ?hf_17 (by kernel_rfl) ?hQ_17 ?hy_17 (by assumption) ?_
  case hi_17 => simp only [List.getElem?_toArray, List.getElem?_cons_zero, List.getElem?_cons_succ]; try rfl
  case hf_17 => kernel_rfl
  case hQ_17 => exact fun _ _ _ h => h
  case hy_17 =>
    refine Or.inl ⟨by rfl, ?_⟩
    intro W hSw
    obtain ⟨q0, q1, q2, q3, q4⟩ := hSw
    go_simp
    try with_reducible rfl
  try simp only [Act.put, List.setIfInBounds_toArray, List.set_cons_zero, List.set_cons_succ]
  refine wpAnyH_take (i := 8) (oi := ?oi_18) (v := ?_) ?hi_18 (by kernel_rfl) ?hf_18 (by kernel_rfl) ?hQ_18 ?hy_18 (by assumption) ?_
  case hi_18 => simp only [List.getElem?_toArray, List.getElem?_cons_zero, List.getElem?_cons_succ]; try rfl
  case hf_18 => kernel_rfl
  case hQ_18 => exact fun _ _ _ h => h
  case hy_18 =>
    refine Or.inl ⟨by rfl, ?_⟩
    intro W hSw
    obtain ⟨q0, q1, q2, q3, q4⟩ := hSw
    go_simp
    try with_reducible rfl
  try simp only [Act.put, List.setIfInBounds_toArray, List.set_cons_zero, List.set_cons_succ]
  refine wpAnyH_take (i := 9) (oi := ?oi_19) (v := ?_) ?hi_19 (by kernel_rfl) ?hf_19 (by kernel_rfl) ?hQ_19 ?hy_19 (by assumption) ?_
  case hi_19 => simp only [List.getElem?_toArray, List.getElem?_cons_zero, List.getElem?_cons_succ]; try rfl
  case hf_19 => kernel_rfl
  case hQ_19 => exact fun _ _ _ h => h
  case hy_19 =>
    refine Or.inl ⟨by rfl, ?_⟩
    intro W hSw
    obtain ⟨q0, q1, q2, q3, q4⟩ := hSw
    go_simp
    try with_reducible rfl
  try simp only [Act.put, List.setIfInBounds_toArray, List.set_cons_zero, List.set_cons_succ]
  refine wpAnyH_ready (rs := [4, 10]) (by kernel_rfl) (by simp) ?_
  refine AllReadyH.cons (o := ?oi_20_0) ?hi_20_0 (fun K hK => ?_) (AllReadyH.cons (o := ?oi_20_1) ?hi_20_1 (fun K hK => ?_) AllReadyH.nil)
  case hi_20_0 => simp only [List.getElem?_toArray, List.getElem?_cons_zero, List.getElem?_cons_succ]; try rfl
  case hi_20_1 => simp only [List.getElem?_toArray, List.getElem?_cons_zero, List.getElem?_cons_succ]; try rfl
  · go_simp
    have HVl : Hid (Below W0.heap.size W0 (W0.alloc (.cells #[.int .u64 (n : Int)] 22)).drew) := Lib.hid (below_drew ((Below.refl _ _).alloc (Nat.le_refl _) _))
    have HRl : Hid ((W0.alloc (.cells #[.int .u64 (n : Int)] 22)).drew.ownsRow W0.heap.size 22 1 (.slice (some ⟨W0.heap.size, 0, none⟩) 1 1) 1 ([(n : Int)].map U64)) := Lib.hid (own_oneW W0 W0.heap.size (n : Int) (Nat.le_refl _))
    have HSl : Hid (Sl (W0.alloc (.cells #[.int .u64 (n : Int)] 22)).drew (some ⟨W0.heap.size, 0, none⟩) 1 1 [(n : Int)]) := Lib.hid (Sl_new W0 [(n : Int)] (by simp))
    obtain ⟨Ul, hUl⟩ : ∃ U, U = (W0.alloc (.cells #[.int .u64 (n : Int)] 22)).drew := ⟨_, rfl⟩
    have hul : Ul.heap.size = W0.heap.size + 1 := by rw [hUl]; simp
    rw [← hUl] at HVl HRl HSl
    rw [← hUl]
    obtain ⟨gl, hgl⟩ : ∃ x, x = W0.heap.size := ⟨_, rfl⟩
    have hltl : gl < Ul.heap.size := by omega
    rw [← hgl]
    rw [← hgl] at HRl HSl
    have HRl : Hid (Ul.ownsRow W0.heap.size 22 1 (.slice (some ⟨gl, 0, none⟩) 1 1) 1 ([(n : Int)].map U64)) := by rw [← hgl]; exact HRl
    clear hUl hul hgl
    have hk_ := HKS.out _ HVl.out
    refine hK.out _ _ hk_ (fun hHeld => ?_)
    clear hK K
    try simp only [Act.put, List.setIfInBounds_toArray, List.set_cons_zero, List.set_cons_succ]
    refine wpAnyH_ready (rs := [7, 10]) (by kernel_rfl) (by simp) ?_
    refine AllReadyH.cons (o := ?oi_7_0) ?hi_7_0 (fun K hK => ?_) (AllReadyH.cons (o := ?oi_7_1) ?hi_7_1 (fun K hK => ?_) AllReadyH.nil)
    case hi_7_0 => simp only [List.getElem?_toArray, List.getElem?_cons_zero, List.getElem?_cons_succ]; try rfl
    case hi_7_1 => simp only [List.getElem?_toArray, List.getElem?_cons_zero, List.getElem?_cons_succ]; try rfl
    · obtain ⟨v7, w7, hr, ho, hg⟩ := app_wd _ W0.heap.size gl 1 1 n c A [(n : Int)] l HRl.out (HSL.out _ HVl.out) (by omega) HVl.out.size (Nat.le_refl _)
      have HV7 := Lib.hid (own_below0 HVl.out HRl.out hg HVl.out.size)
      obtain ⟨g7, cp7, e7, hc7, hm7⟩ := own_some ho (by omega)
      subst e7
      have HR7 := Lib.hid ho
      have hk_ := HKS.out _ HV7.out
      refine step_append_run rfl (.tmp 14) (.tmp 16) 23 rfl _ _ _ w7 rfl rfl hr ?_
      clear hr ho hg
      refine hK.out _ _ hk_ (fun hHeld => ?_)
      clear hK K
      try simp only [Act.put, List.setIfInBounds_toArray, List.set_cons_zero, List.set_cons_succ]
      refine wpAnyH_ready (rs := [10]) (by kernel_rfl) (by simp) ?_
      refine AllReadyH.cons (o := ?oi_3_0) ?hi_3_0 (fun K hK => ?_) AllReadyH.nil
      case hi_3_0 => simp only [List.getElem?_toArray, List.getElem?_cons_zero, List.getElem?_cons_succ]; try rfl
      go_simp
      have HVt := Lib.hid (HV7.out.alloc HV7.out.size (.cells #[.int .u64 a] 22))
      have HRt := Lib.hid (own_oneW w7 W0.heap.size a HV7.out.size)
      have HSt := Lib.hid (Sl_new w7 [a] (by simp))
      have HR7b := Lib.hid (own_kept HR7.out ((Below.refl _ _).alloc (Nat.le_refl _) (.cells #[.int .u64 a] 22)))
      obtain ⟨Ut, hUt⟩ : ∃ U, U = w7.alloc (.cells #[.int .u64 a] 22) := ⟨_, rfl⟩
      have hut : Ut.heap.size = w7.heap.size + 1 := by rw [hUt]; simp
      rw [← hUt]
      obtain ⟨gt, hgt⟩ : ∃ x, x = w7.heap.size := ⟨_, rfl⟩
      have hltt : gt < Ut.heap.size := by omega
      rw [← hgt]
      have HVt : Hid (Below W0.heap.size W0 Ut) := by rw [hUt]; exact HVt
      have HRt : Hid (Ut.ownsRow W0.heap.size 22 1 (.slice (some ⟨gt, 0, none⟩) 1 1) 1 ([a].map U64)) := by rw [hUt, hgt]; exact HRt
      have HSt : Hid (Sl Ut (some ⟨gt, 0, none⟩) 1 1 [a]) := by rw [hUt, hgt]; exact HSt
      have HR7c : Hid (Ut.ownsRow W0.heap.size 22 1 (.slice (some ⟨g7, 0, none⟩) (1 + n) cp7) (1 + n) (([(n : Int)] ++ l).map U64)) := by rw [hUt]; exact HR7b
      clear hUt
      clear hut hgt
      have hk_ := HKS.out _ HVt.out
      refine hK.out _ _ hk_ (fun hHeld => ?_)
      clear hK K
      try simp only [Act.put, List.setIfInBounds_toArray, List.set_cons_zero, List.set_cons_succ]
      refine wpAnyH_ready (rs := [11]) (by kernel_rfl) (by simp) ?_
      refine AllReadyH.cons (o := ?oi_2_0) ?hi_2_0 (fun K hK => ?_) AllReadyH.nil
      case hi_2_0 => simp only [List.getElem?_toArray, List.getElem?_cons_zero, List.getElem?_cons_succ]; try rfl
      obtain ⟨v8, w8, hr, ho, hg⟩ := app_wd _ W0.heap.size g7 (1 + n) cp7 1 1 (some ⟨gt, 0, none⟩) ([(n : Int)] ++ l) [a] HR7c.out HSt.out (by omega) HVt.out.size hc7
      have HV8 := Lib.hid (own_below0 HVt.out HR7c.out hg HVt.out.size)
      obtain ⟨A8, c8, e8, hs8⟩ := sl_of_own ho (by omega)
      subst e8
      have HS8 := Lib.hid hs8
      have hk_ := HKS.out _ HV8.out
      refine step_append_run rfl (.tmp 17) (.tmp 20) 23 rfl _ _ _ w8 rfl rfl hr ?_
      clear hr ho hg hs8
      refine hK.out _ _ hk_ (fun hHeld => ?_)
      clear hK K
      try simp only [Act.put, List.setIfInBounds_toArray, List.set_cons_zero, List.set_cons_succ]
      refine wpAnyH_take (i := 12) (oi := ?oi_1) (v := ?_) ?hi_1 (by kernel_rfl) ?hf_1 (by kernel_rfl) ?hQ_1 ?hy_1 (by assumption) ?_
      case hi_1 => simp only [List.getElem?_toArray, List.getElem?_cons_zero, List.getElem?_cons_succ]; try rfl
      case hf_1 => kernel_rfl
      case hQ_1 => exact fun _ _ _ h => h
      case hy_1 =>
        refine Or.inl ⟨by rfl, ?_⟩
        intro W hSw
        obtain ⟨q0, q1, q2, q3, q4⟩ := hSw
        go_simp
        try with_reducible rfl
      try simp only [Act.put, List.setIfInBounds_toArray, List.set_cons_zero, List.set_cons_succ]
      refine wpAnyH_done (by kernel_rfl) ?_ _
      refine NoPanic.normal ?_
      clear hHeld
      go_wp2
      go_ret
      exact ⟨_, _, _, rfl, HS8.out, HB0.out.trans (HV8.out.mono HB0.out.size)⟩
    · go_simp
      have HVt := Lib.hid (HVl.out.alloc HVl.out.size (.cells #[.int .u64 a] 22))
      have HRt := Lib.hid (own_oneW Ul W0.heap.size a HVl.out.size)
      have HSt := Lib.hid (Sl_new Ul [a] (by simp))
      have HRlb := Lib.hid (own_kept HRl.out ((Below.refl _ _).alloc (Nat.le_refl _) (.cells #[.int .u64 a] 22)))
      obtain ⟨Ut, hUt⟩ : ∃ U, U = Ul.alloc (.cells #[.int .u64 a] 22) := ⟨_, rfl⟩
      have hut : Ut.heap.size = Ul.heap.size + 1 := by rw [hUt]; simp
      rw [← hUt]
      obtain ⟨gt, hgt⟩ : ∃ x, x = Ul.heap.size := ⟨_, rfl⟩
      have hltt : gt < Ut.heap.size := by omega
      rw [← hgt]
      have HVt : Hid (Below W0.heap.size W0 Ut) := by rw [hUt]; exact HVt
      have HRt : Hid (Ut.ownsRow W0.heap.size 22 1 (.slice (some ⟨gt, 0, none⟩) 1 1) 1 ([a].map U64)) := by rw [hUt, hgt]; exact HRt
      have HSt : Hid (Sl Ut (some ⟨gt, 0, none⟩) 1 1 [a]) := by rw [hUt, hgt]; exact HSt
      have hne : gl < gt := by omega
      have HRlc : Hid (Ut.ownsRow W0.heap.size 22 1 (.slice (some ⟨gl, 0, none⟩) 1 1) 1 ([(n : Int)].map U64)) := by rw [hUt]; exact HRlb
      clear hUt
      clear hut hgt
      have hk_ := HKS.out _ HVt.out
      refine hK.out _ _ hk_ (fun hHeld => ?_)
      clear hK K
      try simp only [Act.put, List.setIfInBounds_toArray, List.set_cons_zero, List.set_cons_succ]
      refine wpAnyH_ready (rs := [7]) (by kernel_rfl) (by simp) ?_
      refine AllReadyH.cons (o := ?oi_6_0) ?hi_6_0 (fun K hK => ?_) AllReadyH.nil
      case hi_6_0 => simp only [List.getElem?_toArray, List.getElem?_cons_zero, List.getElem?_cons_succ]; try rfl
      obtain ⟨v7, w7, hr, ho, hg⟩ := app_wd _ W0.heap.size gl 1 1 n c A [(n : Int)] l HRlc.out (HSL.out _ HVt.out) (by omega) HVt.out.size (Nat.le_refl _)
      have HV7 := Lib.hid (own_below0 HVt.out HRlc.out hg HVt.out.size)
      have HSt7 := Lib.hid (sl_grown HSt.out hg (fun p e => by cases e; intro q; injection q with q; simp at q; omega))
      obtain ⟨g7, cp7, e7, hc7, hm7⟩ := own_some ho (by omega)
      subst e7
      have HR7 := Lib.hid ho
      have hk_ := HKS.out _ HV7.out
      refine step_append_run rfl (.tmp 14) (.tmp 16) 23 rfl _ _ _ w7 rfl rfl hr ?_
      clear hr ho hg
      refine hK.out _ _ hk_ (fun hHeld => ?_)
      clear hK K
      try simp only [Act.put, List.setIfInBounds_toArray, List.set_cons_zero, List.set_cons_succ]
      refine wpAnyH_ready (rs := [11]) (by kernel_rfl) (by simp) ?_
      refine AllReadyH.cons (o := ?oi_5_0) ?hi_5_0 (fun K hK => ?_) AllReadyH.nil
      case hi_5_0 => simp only [List.getElem?_toArray, List.getElem?_cons_zero, List.getElem?_cons_succ]; try rfl
      obtain ⟨v8, w8, hr, ho, hg⟩ := app_wd _ W0.heap.size g7 (1 + n) cp7 1 1 (some ⟨gt, 0, none⟩) ([(n : Int)] ++ l) [a] HR7.out HSt7.out (by omega) HV7.out.size hc7
      have HV8 := Lib.hid (own_below0 HV7.out HR7.out hg HV7.out.size)
      obtain ⟨A8, c8, e8, hs8⟩ := sl_of_own ho (by omega)
      subst e8
      have HS8 := Lib.hid hs8
      have hk_ := HKS.out _ HV8.out
      refine step_append_run rfl (.tmp 17) (.tmp 20) 23 rfl _ _ _ w8 rfl rfl hr ?_
      clear hr ho hg hs8
      refine hK.out _ _ hk_ (fun hHeld => ?_)
      clear hK K
      try simp only [Act.put, List.setIfInBounds_toArray, List.set_cons_zero, List.set_cons_succ]
      refine wpAnyH_take (i := 12) (oi := ?oi_4) (v := ?_) ?hi_4 (by kernel_rfl) ?hf_4 (by kernel_rfl) ?hQ_4 ?hy_4 (by assumption) ?_
      case hi_4 => simp only [List.getElem?_toArray, List.getElem?_cons_zero, List.getElem?_cons_succ]; try rfl
      case hf_4 => kernel_rfl
      case hQ_4 => exact fun _ _ _ h => h
      case hy_4 =>
        refine Or.inl ⟨by rfl, ?_⟩
        intro W hSw
        obtain ⟨q0, q1, q2, q3, q4⟩ := hSw
        go_simp
        try with_reducible rfl
      try simp only [Act.put, List.setIfInBounds_toArray, List.set_cons_zero, List.set_cons_succ]
      refine wpAnyH_done (by kernel_rfl) ?_ _
      refine NoPanic.normal ?_
      clear hHeld
      go_wp2
      go_ret
      exact ⟨_, _, _, rfl, HS8.out, HB0.out.trans (HV8.out.mono HB0.out.size)⟩
  · go_simp
    have HVt : Hid (Below W0.heap.size W0 (W0.alloc (.cells #[.int .u64 a] 22)).drew) := Lib.hid (below_drew ((Below.refl _ _).alloc (Nat.le_refl _) _))
    have HRt : Hid ((W0.alloc (.cells #[.int .u64 a] 22)).drew.ownsRow W0.heap.size 22 1 (.slice (some ⟨W0.heap.size, 0, none⟩) 1 1) 1 ([a].map U64)) := Lib.hid (own_oneW W0 W0.heap.size a (Nat.le_refl _))
    have HSt : Hid (Sl (W0.alloc (.cells #[.int .u64 a] 22)).drew (some ⟨W0.heap.size, 0, none⟩) 1 1 [a]) := Lib.hid (Sl_new W0 [a] (by simp))
    obtain ⟨Ut, hUt⟩ : ∃ U, U = (W0.alloc (.cells #[.int .u64 a] 22)).drew := ⟨_, rfl⟩
    have hut : Ut.heap.size = W0.heap.size + 1 := by rw [hUt]; simp
    rw [← hUt] at HVt HRt HSt
    rw [← hUt]
    obtain ⟨gt, hgt⟩ : ∃ x, x = W0.heap.size := ⟨_, rfl⟩
    have hltt : gt < Ut.heap.size := by omega
    rw [← hgt]
    rw [← hgt] at HRt HSt
    have HRt : Hid (Ut.ownsRow W0.heap.size 22 1 (.slice (some ⟨gt, 0, none⟩) 1 1) 1 ([a].map U64)) := by rw [← hgt]; exact HRt
    clear hUt hut hgt
    have hk_ := HKS.out _ HVt.out
    refine hK.out _ _ hk_ (fun hHeld => ?_)
    clear hK K
    try simp only [Act.put, List.setIfInBounds_toArray, List.set_cons_zero, List.set_cons_succ]
    refine wpAnyH_ready (rs := [4]) (by kernel_rfl) (by simp) ?_
    refine AllReadyH.cons (o := ?oi_11_0) ?hi_11_0 (fun K hK => ?_) AllReadyH.nil
    case hi_11_0 => simp only [List.getElem?_toArray, List.getElem?_cons_zero, List.getElem?_cons_succ]; try rfl
    go_simp
    have HVl := Lib.hid (HVt.out.alloc HVt.out.size (.cells #[.int .u64 (n : Int)] 22))
    have HRl := Lib.hid (own_oneW Ut W0.heap.size (n : Int) HVt.out.size)
    have HSl := Lib.hid (Sl_new Ut [(n : Int)] (by simp))
    have HStb := Lib.hid (HSt.out.below ((Below.refl _ _).alloc (Nat.le_refl _) (.cells #[.int .u64 (n : Int)] 22)))
    obtain ⟨Ul, hUl⟩ : ∃ U, U = Ut.alloc (.cells #[.int .u64 (n : Int)] 22) := ⟨_, rfl⟩
    have hul : Ul.heap.size = Ut.heap.size + 1 := by rw [hUl]; simp
    rw [← hUl]
    obtain ⟨gl, hgl⟩ : ∃ x, x = Ut.heap.size := ⟨_, rfl⟩
    have hltl : gl < Ul.heap.size := by omega
    rw [← hgl]
    have HVl : Hid (Below W0.heap.size W0 Ul) := by rw [hUl]; exact HVl
    have HRl : Hid (Ul.ownsRow W0.heap.size 22 1 (.slice (some ⟨gl, 0, none⟩) 1 1) 1 ([(n : Int)].map U64)) := by rw [hUl, hgl]; exact HRl
    have HSl : Hid (Sl Ul (some ⟨gl, 0, none⟩) 1 1 [(n : Int)]) := by rw [hUl, hgl]; exact HSl
    have hne : gt < gl := by omega
    have HStc : Hid (Sl Ul (some ⟨gt, 0, none⟩) 1 1 [a]) := by rw [hUl]; exact HStb
    clear hUl
    clear hul hgl
    have hk_ := HKS.out _ HVl.out
    refine hK.out _ _ hk_ (fun hHeld => ?_)
    clear hK K
    try simp only [Act.put, List.setIfInBounds_toArray, List.set_cons_zero, List.set_cons_succ]
    refine wpAnyH_ready (rs := [7]) (by kernel_rfl) (by simp) ?_
    refine AllReadyH.cons (o := ?oi_10_0) ?hi_10_0 (fun K hK => ?_) AllReadyH.nil
    case hi_10_0 => simp only [List.getElem?_toArray, List.getElem?_cons_zero, List.getElem?_cons_succ]; try rfl
    obtain ⟨v7, w7, hr, ho, hg⟩ := app_wd _ W0.heap.size gl 1 1 n c A [(n : Int)] l HRl.out (HSL.out _ HVl.out) (by omega) HVl.out.size (Nat.le_refl _)
    have HV7 := Lib.hid (own_below0 HVl.out HRl.out hg HVl.out.size)
    have HSt7 := Lib.hid (sl_grown HStc.out hg (fun p e => by cases e; intro q; injection q with q; simp at q; omega))
    obtain ⟨g7, cp7, e7, hc7, hm7⟩ := own_some ho (by omega)
    subst e7
    have HR7 := Lib.hid ho
    have hk_ := HKS.out _ HV7.out
    refine step_append_run rfl (.tmp 14) (.tmp 16) 23 rfl _ _ _ w7 rfl rfl hr ?_
    clear hr ho hg
    refine hK.out _ _ hk_ (fun hHeld => ?_)
    clear hK K
    try simp only [Act.put, List.setIfInBounds_toArray, List.set_cons_zero, List.set_cons_succ]
    refine wpAnyH_ready (rs := [11]) (by kernel_rfl) (by simp) ?_
    refine AllReadyH.cons (o := ?oi_9_0) ?hi_9_0 (fun K hK => ?_) AllReadyH.nil
    case hi_9_0 => simp only [List.getElem?_toArray, List.getElem?_cons_zero, List.getElem?_cons_succ]; try rfl
    obtain ⟨v8, w8, hr, ho, hg⟩ := app_wd _ W0.heap.size g7 (1 + n) cp7 1 1 (some ⟨gt, 0, none⟩) ([(n : Int)] ++ l) [a] HR7.out HSt7.out (by omega) HV7.out.size hc7
    have HV8 := Lib.hid (own_below0 HV7.out HR7.out hg HV7.out.size)
    obtain ⟨A8, c8, e8, hs8⟩ := sl_of_own ho (by omega)
    subst e8
    have HS8 := Lib.hid hs8
    have hk_ := HKS.out _ HV8.out
    refine step_append_run rfl (.tmp 17) (.tmp 20) 23 rfl _ _ _ w8 rfl rfl hr ?_
    clear hr ho hg hs8
    refine hK.out _ _ hk_ (fun hHeld => ?_)
    clear hK K
    try simp only [Act.put, List.setIfInBounds_toArray, List.set_cons_zero, List.set_cons_succ]
    refine wpAnyH_take (i := 12) (oi := ?oi_8) (v := ?_) ?hi_8 (by kernel_rfl) ?hf_8 (by kernel_rfl) ?hQ_8 ?hy_8 (by assumption) ?_
    case hi_8 => simp only [List.getElem?_toArray, List.getElem?_cons_zero, List.getElem?_cons_succ]; try rfl
    case hf_8 => kernel_rfl
    case hQ_8 => exact fun _ _ _ h => h
    case hy_8 =>
      refine Or.inl ⟨by rfl, ?_⟩
      intro W hSw
      obtain ⟨q0, q1, q2, q3, q4⟩ := hSw
      go_simp
      try with_reducible rfl
    try simp only [Act.put, List.setIfInBounds_toArray, List.set_cons_zero, List.set_cons_succ]
    refine wpAnyH_done (by kernel_rfl) ?_ _
    refine NoPanic.normal ?_
    clear hHeld
    go_wp2
    go_ret
    exact ⟨_, _, _, rfl, HS8.out, HB0.out.trans (HV8.out.mono HB0.out.size)⟩
end Go.Proofs.YtggfaalodojjkaaGreatDoor
namespace Go.Proofs.YtggfaalodojjkaaGreatDoor
open Go.RowKit
set_option linter.unusedVariables false
set_option linter.unusedSimpArgs false
set_option maxHeartbeats 4000000 in
set_option maxRecDepth 100000 in
theorem enc_walk5 (cd a b al : Int) (A : Option Addr) (n c : Nat) (hnc : n ≤ c) (hcm : c ≤ 9223372036854775807) (w : World) (fi fo : Int) (nm : ByteArray) (nt ng : Nat) (hfo : fo ≠ 11) (H : List Nat) (N : List Int) (hN : N.length ≤ 120) (hz : ∀ z ∈ N, 0 ≤ z ∧ z < 4294967296) (hH : H.length ≤ 20)
    (HO : Hid (∀ W, Below w.heap.size w W → Calls Tryz.prog 29 #[.agg #[.int .i64 cd, .int .u64 a, .int .u64 b, .int .i64 al, .slice A n c]] W fun e w' => ∃ At ct Ag cg, nt ≤ ct ∧ ct ≤ 9223372036854775807 ∧ ng ≤ cg ∧ cg ≤ 9223372036854775807 ∧ e = .returned (.tuple #[.agg #[.int .i64 fi, .string nm, .int .i64 fo, .slice At nt ct, .slice Ag ng cg], .bool true]) ∧ Below W.heap.size W w'))
    (HH : Hid (∀ W, Calls Tryz.prog 30 #[.int .i64 cd] W (HdP H W)))
    (HN : Hid (∀ W, Below w.heap.size w W → Calls Tryz.prog 34 #[.agg #[.int .i64 cd, .int .u64 a, .int .u64 b, .int .i64 al, .slice A n c], .int .i64 fo] W (NuP N W))) :
    Calls Tryz.prog 10 #[.agg #[.int .i64 cd, .int .u64 a, .int .u64 b, .int .i64 al, .slice A n c]] w (EnP (H ++ putL N) w) := by
  obtain ⟨W0, hW0⟩ : ∃ V, V = w.alloc (.cells #[.int .i64 cd, .int .u64 a, .int .u64 b, .int .i64 al, .slice A n c] 30) := ⟨_, rfl⟩
  obtain ⟨bx, hbx⟩ : ∃ x, x = w.heap.size := ⟨_, rfl⟩
  have hb0 : Below w.heap.size w W0 := by rw [hW0]; exact (Below.refl _ _).alloc (Nat.le_refl _) _
  have hX0 : Blk W0 bx 30 #[.int .i64 cd, .int .u64 a, .int .u64 b, .int .i64 al, .slice A n c] := by rw [hW0, hbx]; exact Blk.new w 30 _
  have HB0 := Lib.hid hb0
  have HX := Lib.hid (fun V (hV : Below W0.heap.size W0 V) => hX0.below hV hX0.lt)
  have HO0 := Lib.hid (HO.out W0 hb0)
  have HW0 := Lib.hid hW0
  have HBX := Lib.hid hbx
  have x0 : W0.cell? ⟨bx, 0, none⟩ = some (.int .i64 cd) := hX0.cell 0
  have x1 : W0.cell? ⟨bx, 1, none⟩ = some (.int .u64 a) := hX0.cell 1
  have x2 : W0.cell? ⟨bx, 2, none⟩ = some (.int .u64 b) := hX0.cell 2
  have x3 : W0.cell? ⟨bx, 3, none⟩ = some (.int .i64 al) := hX0.cell 3
  have x4 : W0.cell? ⟨bx, 4, none⟩ = some (.slice A n c) := hX0.cell 4
  have hf2 : (fo == 11) = false := by simpa using hfo
  clear hb0 hX0 hW0 hbx HO hfo
  go_enter Tryz.func10, Tryz.ntmps10
  go_upto_region 1 with fail
  rw [← HBX.out]
  rw [← HW0.out]
  go_upto_region 2 with (first
    | (go_at_call 29; (with_reducible refine HO0.out.mono ?_); rintro e w1 ⟨At, ct, Ag, cg, hnt, hct, hng, hcg, rfl, hb1⟩
       have HW1 := Lib.hid hb1
       clear hb1))
  obtain ⟨W5, hW5⟩ : ∃ V, V = w1.alloc (.cells #[.int .i64 fi, .string nm, .int .i64 fo, .slice At nt ct, .slice Ag ng cg] 61) := ⟨_, rfl⟩
  obtain ⟨b4, hb4⟩ : ∃ x, x = w1.heap.size := ⟨_, rfl⟩
  have h15 : Below w1.heap.size w1 W5 := by rw [hW5]; exact (Below.refl _ _).alloc (Nat.le_refl _) _
  have hI : Blk W5 b4 61 #[.int .i64 fi, .string nm, .int .i64 fo, .slice At nt ct, .slice Ag ng cg] := by rw [hW5, hb4]; exact Blk.new w1 61 _
  rw [← hb4, ← hW5]
  have hxb := HX.out W5 (HW1.out.trans (h15.mono HW1.out.size))
  have H5 := Lib.hid (HW1.out.trans (h15.mono HW1.out.size))
  have HI := Lib.hid (fun V (hV : Below W5.heap.size W5 V) => hI.below hV hI.lt)
  clear x0 x1 x2 x3 x4
  have x0 : W5.cell? ⟨bx, 0, none⟩ = some (.int .i64 cd) := hxb.cell 0
  clear h15 hI hW5 hb4 hxb
  go_wp2_with fail
  with_reducible refine (HH.out _).mono ?_
  rintro e w2 ⟨Ah, nh, ch, rfl, hhy, hb2, hnh⟩
  have HHY := Lib.hid hhy
  have HNH := Lib.hid hnh
  have hch := hhy.2.2.1
  have hchm := hhy.2.2.2.1
  unfold maxLen at hchm
  have H2 := Lib.hid (H5.out.trans (hb2.mono H5.out.size))
  have hib := HI.out w2 hb2
  have hxb := HX.out w2 H2.out
  have i2 : w2.cell? ⟨b4, 2, none⟩ = some (.int .i64 fo) := hib.cell 2
  clear x0 hhy hnh hb2
  have x0 : w2.cell? ⟨bx, 0, none⟩ = some (.int .i64 cd) := hxb.cell 0
  have x1 : w2.cell? ⟨bx, 1, none⟩ = some (.int .u64 a) := hxb.cell 1
  have x2 : w2.cell? ⟨bx, 2, none⟩ = some (.int .u64 b) := hxb.cell 2
  have x3 : w2.cell? ⟨bx, 3, none⟩ = some (.int .i64 al) := hxb.cell 3
  have x4 : w2.cell? ⟨bx, 4, none⟩ = some (.slice A n c) := hxb.cell 4
  clear hib hxb
  go_wp2_with fail
  with_reducible refine (HN.out _ (HB0.out.trans (H2.out.mono HB0.out.size))).mono ?_
  rintro e w3 ⟨An, nn, cn, rfl, hsl, hb3⟩
  have hcn := hsl.2.1
  have hcnm := hsl.2.2.1
  have hnl := hsl.1
  subst hnl
  unfold maxLen at hcnm
  have H3 := Lib.hid (HB0.out.trans ((H2.out.trans (hb3.mono H2.out.size)).mono HB0.out.size))
  have HHY3 := Lib.hid (HHY.out.kept hb3)
  have HSL := Lib.hid hsl
  have HHL := Lib.hid hH
  have HZ := Lib.hid hz
  clear x0 x1 x2 x3 x4 i2 hsl hb3 hH hz
  go_wp2_with fail
  go_loopw [34, 6] (fun v34 v6 wr => ∃ (k : Nat) (g : Option Addr) (m cp : Nat), k ≤ N.length ∧ v34 = .int .i64 k ∧ v6 = .slice g m cp ∧ m ≤ cp ∧ cp ≤ 9223372036854775807 ∧ m ≤ 20 + 5 * k ∧ Hid (Byt wr g m cp (H ++ putL (N.take k))) ∧ Hid (m = (H ++ putL (N.take k)).length) ∧ Hid (Below w3.heap.size w3 wr)) (fun v34 _ _ => N.length - (intOf v34).toNat)
  case atStart => exact ⟨0, Ah, nh, ch, by omega, rfl, rfl, hch, hchm, by have := HNH.out; have := HHL.out; omega, Lib.hid (by simpa [putL] using HHY3.out), Lib.hid (by simpa [putL] using HNH.out), Lib.hid (Below.refl _ _)⟩
  case round =>
    obtain ⟨k, g, m, cp, hk, rfl, rfl, hm1, hm2, hm3, HY, HM, HB⟩ := hrel
    by_cases hlt : k < N.length
    · obtain ⟨bn, off, rfl, hbl, hcell⟩ := HSL.out.2.2.2 (by omega)
      have h0 := (HB.out.cell (p := ⟨bn, off + k, none⟩) hbl).trans (hcell k hlt)
      unfold U64 at h0
      have hzz := HZ.out (N.getD k 0) (by rw [List.getD_eq_getElem?_getD, List.getElem?_eq_getElem hlt]; exact List.getElem_mem hlt)
      have HPL := Lib.hid (putL_more N k hlt)
      clear hcell
      generalize N.getD k 0 = z at h0 hzz HPL
      obtain ⟨q, rfl⟩ := Int.eq_ofNat_of_zero_le hzz.1
      have HP := Lib.hid (Put_any g m cp (H ++ putL (N.take k)) q wr HY.out (by omega) (by omega))
      have HSZ := Lib.hid (Leb.szU_le 4 q (by omega))
      rw [Int.toNat_natCast] at HPL
      unfold PutPost at HP
      go_wp2_with fail
      with_reducible refine HP.out.mono ?_
      rintro e w4 ⟨g4, cp4, rfl, hby, hb4⟩
      have HY4 : Hid (Byt w4 (some ⟨g4, 0, none⟩) (m + Leb.szU q + 1) cp4 (H ++ putL (N.take (k + 1)))) := Lib.hid (by rw [HPL.out, ← List.append_assoc]; exact hby)
      have HB4 := Lib.hid (HB.out.trans (hb4.mono HB.out.size))
      have HM4 : Hid (m + Leb.szU q + 1 = (H ++ putL (N.take (k + 1))).length) := Lib.hid (by rw [HPL.out, ← List.append_assoc, List.length_append, enc_len, ← HM.out]; omega)
      have q1 := hby.2.2.1
      have q2 := hby.2.2.2.1
      unfold maxLen at q2
      clear hby hb4
      obtain ⟨mm, hmm⟩ : ∃ mm, mm = m + Leb.szU q + 1 := ⟨_, rfl⟩
      have hmm2 : mm ≤ 20 + 5 * (k + 1) := by have := HSZ.out; omega
      rw [← hmm] at HY4 HM4 q1 ⊢
      clear hmm
      go_wp2
      go_roundw
      case rel => exact ⟨k + 1, some ⟨g4, 0, none⟩, mm, cp4, by omega, by go_num, rfl, q1, by omega, hmm2, HY4, HM4, HB4⟩
      case measure => simp [intOf]; omega
    · obtain rfl : k = N.length := by omega
      go_wp2
      refine bodyPost_ret (results_tmp2 results10 _ _ _) rfl ?_
      have hy := HY.out
      have hmm := HM.out
      rw [List.take_of_length_le (Nat.le_refl _)] at hy hmm
      exact ⟨g, m, cp, rfl, hy, hmm, H3.out.trans (HB.out.mono H3.out.size)⟩
end Go.Proofs.YtggfaalodojjkaaGreatDoor
namespace Go.Proofs.YtggfaalodojjkaaGreatDoor
open Go.RowKit
set_option linter.unusedVariables false
set_option linter.unusedSimpArgs false
/-- an instruction of words -/
structure InW (x : In) : Prop where
  cd : (Lit.int .i64 x.cd).wf = true
  a : 0 ≤ x.a ∧ x.a < 18446744073709551616
  b : 0 ≤ x.b ∧ x.b < 18446744073709551616
  l : ∀ z ∈ x.l, 0 ≤ z ∧ z < 18446744073709551616
  n : x.l.length ≤ 1000
/-- the numbers behind an op of a form -/
def numI (x : In) (f : Nat) : List Int :=
  if f = 0 then [] else if f = 3 then [(x.l.length : Int)] ++ x.l ++ [x.a] else if f = 5 ∨ f = 10 then [x.a, x.b] else if f = 8 then (if x.a = 0 then [x.al, x.b] else [64 + x.al, x.a, x.b]) else [x.a]
def conI (x : In) (r : Rw) : Int := Wd.sgn (btT (r.gives.getD 0 0)) x.a.toNat
/-- an instruction's bytes -/
def encL (x : In) (r : Rw) : List Nat := headL x.cd ++ (if r.form = 11 then Leb.enc (Leb.szS (conI x r)) (conI x r) else putL (numI x r.form))
theorem row_small : ∀ r ∈ RW, r.first < 70000 ∧ (Lib.fields r.names).length < 1000 ∧ r.form ≤ 11 := by
  have h : (RW.all fun r => decide (r.first < 70000) && decide ((Lib.fields r.names).length < 1000) && decide (r.form ≤ 11)) = true := by kernel_rfl
  intro r hr
  have := List.all_eq_true.1 h r hr
  simp only [Bool.and_eq_true, decide_eq_true_eq] at this
  exact ⟨this.1.1, this.1.2, this.2⟩
/-- what is right keeps the bounds -/
theorem right_facts {x : In} {r : Rw} (hr : rightI x r) : r ∈ RW ∧ (0 ≤ x.cd ∧ x.cd < 100000) ∧ x.a ≤ (bnR r).a ∧ x.b ≤ (bnR r).b ∧ 0 ≤ x.al ∧ x.al ≤ (bnR r).al ∧ (x.l.length : Int) ≤ (bnR r).lb ∧ ∀ z ∈ x.l, z ≤ 4294967295 := by
  obtain ⟨k, hk, hi, hb⟩ := hr
  have hm := rw_of hk
  obtain ⟨s1, s2, s3⟩ := row_small r hm
  have h1 := hk.2.1
  unfold riB wiB okW at hb
  simp only [Bool.and_eq_true, decide_eq_true_eq, List.all_eq_true, Bool.not_eq_true', decide_eq_false_iff_not] at hb
  obtain ⟨⟨⟨⟨⟨⟨q1, q2⟩, q3⟩, q4⟩, q5⟩, q6⟩, _⟩ := hb
  exact ⟨hm, ⟨by omega, by omega⟩, q1, q2, q3, q4, q5, fun z hz => by have := q6 z hz; omega⟩
/-- op of an instruction that may be, and what its info is in memory -/
theorem op_rightG (x : In) (r : Rw) (hr : rightI x r) (A : Option Addr) (c : Nat) (w : World) (hT : Tb w) (hcd : (Lit.int .i64 x.cd).wf = true) (hl : Sl w A x.l.length c x.l) (hn : x.l.length ≤ 200000) :
    Calls Tryz.prog 29 #[.agg (I5 x (.slice A x.l.length c)).toArray] w fun e w' => ∃ At ct Ag cg, r.takes.length ≤ ct ∧ ct ≤ 9223372036854775807 ∧ r.gives.length ≤ cg ∧ cg ≤ 9223372036854775807 ∧ e = .returned (.tuple #[.agg (infV r (x.cd - r.first).toNat At ct Ag cg), .bool true]) ∧ Below w.heap.size w w' ∧ InfAt w' w.heap.size r (x.cd - r.first).toNat At ct Ag cg := by
  refine (op_ok x A c w hT hcd hl hn).mono ?_
  rintro e w' ⟨hb, h⟩
  rcases h with ⟨_, h⟩ | ⟨r', At, ct, Ag, cg, hr', rfl, hI⟩
  · exact absurd hr (h r)
  · obtain ⟨k, h1, _⟩ := hr
    obtain ⟨k', h1', _⟩ := hr'
    obtain ⟨rfl, rfl⟩ := RowOf.uniq h1 h1'
    obtain ⟨q1, q2, q3, q4⟩ := hI.len
    exact ⟨At, ct, Ag, cg, q1, q2, q3, q4, rfl, hb, hI⟩
theorem bits_row (r : Rw) (hm : r ∈ RW) (h11 : r.form = 11) (i B : Nat) (At : Option Addr) (ct : Nat) (Ag : Option Addr) (cg : Nat) (w : World) (h : InfAt w B r i At ct Ag cg) :
    Calls Tryz.prog 33 #[.agg (infV r i At ct Ag cg)] w fun e w' => e = .returned (.int .i64 (btT (r.gives.getD 0 0))) ∧ Below w.heap.size w w' := by
  unfold infV
  obtain ⟨A1, c1, e1, t1, t2, t3⟩ := byt_own113 h.1 rfl
  obtain ⟨A2, c2, e2, g1, g2, g3⟩ := byt_own113 h.2 rfl
  cases e1
  cases e2
  unfold maxLen at t2 g2
  rcases (rw_facts r hm).2.2 h11 with e | e
  · rw [e] at g1 g3 ⊢
    obtain ⟨g, rfl, hgl, hc⟩ := g3 (by simp)
    exact bits33_ok _ _ _ _ _ _ g 1 _ 126 (by decide) w (by decide) g1 g2 hgl (hc 0 (by simp)) t1 t2
  · rw [e] at g1 g3 ⊢
    obtain ⟨g, rfl, hgl, hc⟩ := g3 (by simp)
    exact bits33_ok _ _ _ _ _ _ g 1 _ 127 (by decide) w (by decide) g1 g2 hgl (hc 0 (by simp)) t1 t2
theorem bt_row (r : Rw) (hm : r ∈ RW) (h11 : r.form = 11) : ((btT (r.gives.getD 0 0) : Nat) : Int) = 32 ∨ ((btT (r.gives.getD 0 0) : Nat) : Int) = 64 := by
  rcases (rw_facts r hm).2.2 h11 with e | e <;> rw [e]
  · exact .inr rfl
  · exact .inl rfl
theorem head_len (cd : Int) (h : cd < 100000) : (headL cd).length ≤ 20 := by
  unfold headL
  split
  · simp
  · rw [List.length_cons, enc_len]
    have := Leb.szU_le 9 (cd - 64512).toNat (by omega)
    omega
/-- Encode of an instruction that may be -/
theorem enc_any (x : In) (r : Rw) (hr : rightI x r) (hx : InW x) (A : Option Addr) (c : Nat) (w : World) (hT : Tb w) (hl : Sl w A x.l.length c x.l) :
    Calls Tryz.prog 10 #[.agg (I5 x (.slice A x.l.length c)).toArray] w (EnP (encL x r) w) := by
  obtain ⟨hm, hcd, ba, bb, b0, bl, bn_, bL⟩ := right_facts hr
  have hs := hT.size
  have hnc := hl.2.1
  have hcm := hl.2.2.1
  unfold maxLen at hcm
  have HO := Lib.hid (fun W (hW : Below w.heap.size w W) => op_rightG x r hr A c W (hT.below hW hs) hx.cd (hl.below hW) (by have := hx.n; omega))
  have HH := Lib.hid (fun W => head_ok x.cd hcd.1 hcd.2 W)
  have hH := head_len x.cd hcd.2
  have HSl := Lib.hid (fun W (hW : Below w.heap.size w W) => hl.below hW)
  have hn := hx.n
  obtain ⟨x1, x2, x3, x4, x5⟩ := hx
  obtain ⟨cd, a, b, al, l⟩ := x
  dsimp only at *
  unfold encL
  dsimp only
  by_cases h11 : r.form = 11
  · rw [if_pos h11]
    have HB := bits_row r hm h11
    unfold infV at HO HB
    rw [h11] at HO HB
    have hbt := bt_row r hm h11
    have hf := sgn_fit (btT (r.gives.getD 0 0)) a.toNat (by omega)
    refine enc_const cd a b al A l.length c hnc (by omega) w _ _ _ _ (btT (r.gives.getD 0 0)) (conI ⟨cd, a, b, al, l⟩ r) (by have h2 : conI ⟨cd, a, b, al, l⟩ r = Wd.sgn (btT (r.gives.getD 0 0)) a.toNat := rfl; rw [h2]; omega) (headL cd) hH
      (fun At ct Ag cg W => ∃ B, InfAt W B r (cd - r.first).toNat At ct Ag cg)
      (Lib.hid fun W hW => (HO.out W hW).mono ?_)
      (Lib.hid fun At ct Ag cg w1 hG V hV => by obtain ⟨B, hG⟩ := hG; exact HB _ B At ct Ag cg V (hG.below hV))
      (Lib.hid fun W => by
        have := signed32_any (btT (r.gives.getD 0 0)) a.toNat (by omega) W hbt
        rw [Int.toNat_of_nonneg x2.1] at this
        exact this) HH
    rintro e w' ⟨At, ct, Ag, cg, q1, q2, q3, q4, q5, q6, q7⟩
    exact ⟨At, ct, Ag, cg, q1, q2, q3, q4, q5, q6, _, q7⟩
  rw [if_neg h11]
  unfold infV at HO
  have HO2 : Hid (∀ W, Below w.heap.size w W → Calls Tryz.prog 29 #[.agg #[.int .i64 cd, .int .u64 a, .int .u64 b, .int .i64 al, .slice A l.length c]] W fun e w' => ∃ At ct Ag cg, r.takes.length ≤ ct ∧ ct ≤ 9223372036854775807 ∧ r.gives.length ≤ cg ∧ cg ≤ 9223372036854775807 ∧ e = .returned (.tuple #[.agg #[.int .i64 ((r.first : Int) + ((cd - r.first).toNat : Int)), .string (nmS r (cd - r.first).toNat), .int .i64 ((r.form : Nat) : Int), .slice At r.takes.length ct, .slice Ag r.gives.length cg], .bool true]) ∧ Below W.heap.size W w') := Lib.hid (fun W hW => (HO.out W hW).mono (by
    rintro e w' ⟨At, ct, Ag, cg, q1, q2, q3, q4, q5, q6, q7⟩
    exact ⟨At, ct, Ag, cg, q1, q2, q3, q4, q5, q6⟩))
  by_cases h3 : r.form = 3
  · have e : numI ⟨cd, a, b, al, l⟩ r.form = [(l.length : Int)] ++ l ++ [a] := by rw [h3]; simp [numI]
    rw [e]
    have hB : (bnR r).a = 4294967295 ∧ (bnR r).lb = 100 := by unfold bnR bn; rw [h3]; exact ⟨rfl, rfl⟩
    have hA : Hid (∀ W, Below w.heap.size w W → Calls Tryz.prog 34 #[.agg #[.int .i64 cd, .int .u64 a, .int .u64 b, .int .i64 al, .slice A l.length c], .int .i64 ((r.form : Nat) : Int)] W (NuP ([(l.length : Int)] ++ l ++ [a]) W)) := Lib.hid (fun W hW => by
      rw [h3]; exact numbers_3 cd a b al A l.length c l W (HSl.out W hW) hn)
    exact enc_walk5 cd a b al A l.length c hnc (by omega) w _ _ _ _ _ (by omega) (headL cd) _ (by simp; omega) (fun z hz => by
      simp only [List.mem_append, List.mem_cons, List.not_mem_nil, or_false] at hz
      rcases hz with (rfl | hz) | rfl
      · omega
      · have := bL z hz; have := (x4 z hz).1; omega
      · omega) hH HO2 HH hA
  have hnum : Hid (∀ W, Calls Tryz.prog 34 #[.agg #[.int .i64 cd, .int .u64 a, .int .u64 b, .int .i64 al, .slice A l.length c], .int .i64 ((r.form : Nat) : Int)] W (NuP (numI ⟨cd, a, b, al, l⟩ r.form) W)) ∧ (numI ⟨cd, a, b, al, l⟩ r.form).length ≤ 10 ∧ ∀ z ∈ numI ⟨cd, a, b, al, l⟩ r.form, 0 ≤ z ∧ z < 18446744073709551616 := by
    by_cases h0 : r.form = 0
    · rw [h0]; exact ⟨Lib.hid fun W => numbers_0 cd a b al A l.length c W, by simp [numI], by simp [numI]⟩
    by_cases h5 : r.form = 5
    · rw [h5]; exact ⟨Lib.hid fun W => numbers_5 cd a b al A l.length c W, by simp [numI], by simp [numI]; omega⟩
    by_cases h10 : r.form = 10
    · rw [h10]; exact ⟨Lib.hid fun W => numbers_10 cd a b al A l.length c W, by simp [numI], by simp [numI]; omega⟩
    by_cases h8 : r.form = 8
    · have hB : (bnR r).al = 31 := by unfold bnR bn; rw [h8]; rfl
      rw [h8]
      by_cases ha : a = 0
      · have e : numI ⟨cd, a, b, al, l⟩ 8 = [al, b] := by simp [numI, ha]
        rw [e]; exact ⟨Lib.hid fun W => numbers_8z cd a b al A l.length c W ha b0 (by omega), by simp, by simp; omega⟩
      · have e : numI ⟨cd, a, b, al, l⟩ 8 = [64 + al, a, b] := by simp [numI, ha]
        rw [e]; exact ⟨Lib.hid fun W => numbers_8 cd a b al A l.length c W ha b0 (by omega), by simp, by simp; omega⟩
    · have e : numI ⟨cd, a, b, al, l⟩ r.form = [a] := by simp [numI, h0, h3, h5, h10, h8]
      rw [e]; exact ⟨Lib.hid fun W => numbers_x cd a b al A l.length c _ W (by omega) (by omega) (by omega) (by omega) (by omega), by simp, by simp; omega⟩
  obtain ⟨n1, n2, n3⟩ := hnum
  exact enc_walk cd a b al A l.length c hnc (by omega) w _ _ _ _ _ (by omega) (headL cd) _ n2 n3 hH HO2 HH n1
end Go.Proofs.YtggfaalodojjkaaGreatDoor
