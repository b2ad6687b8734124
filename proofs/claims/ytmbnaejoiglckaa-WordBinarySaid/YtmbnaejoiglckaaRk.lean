/-
  The document's own exclusive or of rows, what mix is in numbers, and mul: for WordBinary.
-/
import Derived.Test.YtmbnaejoiglckaaRj
import Derived.Maps.AppendAt
import Derived.Deep.RegionHeld3
namespace Go.Proofs.Ytmbnaejoiglckaa
open Go.RowKit
set_option linter.unusedVariables false
set_option linter.unusedSimpArgs false
/-- append in a region that draws its order, by an equation on its run -/
theorem step_append_run {P : Program} {ops : Array Oper} {o : Oper} {a : Act} {w : World} {K : Act → World → Prop} {Q : Exit → Act → World → Prop} {E : Prop} (hgd : o.guard = none) (s x : Operand) (T : TypeId)
    (ho : o.op = .call { callee := .builtin .append, args := #[s, x], argTypes := #[T, T] }) (v xv v' : Value) (w' : World) (hs : a.eval s = v) (hx : a.eval x = xv)
    (hrun : Hid (∀ ty, (Builtin.append_ #[T, T] ty #[v, xv]).run P w = .ok v' w')) (h : K (a.put o.dst v') w') :
    if Region.wanted o (yielded ops a.tmps) = true then Oper.wp P o a w K Q else E := by
  have hw : Region.wanted o (yielded ops a.tmps) = true := by simp [Region.wanted, hgd]
  rw [if_pos hw]
  unfold Oper.wp
  simp [execOp, ho, resolve, invoke, builtin, hs, hx, hrun.out o.type, Result.andThen]
  exact h
theorem addr_add (b off j : Nat) : (⟨b, off, none⟩ : Addr).add j = ⟨b, off + j, none⟩ := by cases j <;> rfl
theorem app_run (w : World) (B n m g off c : Nat) (v : Value) (xs ys : List Value) (hown : w.ownsRow B 4 1 v n xs) (hl : ys.length = m) (hys : ∀ j u, ys[j]? = some u → w.cell? ⟨g, off + j, none⟩ = some u) (h1 : ∀ u ∈ ys, u.oneCell' = true) (hnm : n + m ≤ 1000) (hB : B ≤ w.heap.size) :
    ∃ v' w', Hid (∀ ty, (Builtin.append_ #[41, 41] ty #[v, .slice (some ⟨g, off, none⟩) m c]).run Try.prog w = .ok v' w') ∧ w'.ownsRow B 4 1 v' (n + m) (xs ++ ys) ∧ w.grownBy w' v.ownBlock := by
  obtain ⟨i0, hi, hz0, hz1, hz2⟩ := info4_parts
  obtain ⟨v', w', h, h2, h3, _⟩ := run_append_own_at (P := Try.prog) w B 41 41 4 i0 _ 1 1 Try.underlying41 hi hz0 hz1 hz2 rfl (by decide) v n xs hown ⟨g, off, none⟩ m c ys (by rw [hl, Nat.mul_one]) (fun j u hj => by rw [addr_add]; exact hys j u hj) h1 (by unfold maxLen; omega) (by omega) hB
  exact ⟨v', w', Lib.hid (fun ty => h), h2, h3⟩
set_option maxHeartbeats 4000000 in
set_option maxRecDepth 100000 in
theorem Mix_2 (g1 c1 g2 c2 n : Nat) (f1 f2 : Nat → Bool) (w : World) (hn : 1 ≤ n) (hn2 : n ≤ 65) (hc1 : n ≤ c1) (hc2 : n ≤ c2) (hd1 : c1 ≤ 9223372036854775807) (hd2 : c2 ≤ 9223372036854775807) (h1 : Bo w g1 n f1) (h2 : Bo w g2 n f2) :
    Calls Try.prog 27 #[.slice (some ⟨g1, 0, none⟩) n c1, .slice (some ⟨g2, 0, none⟩) n c2, .int .i64 2] w (LPost w.heap.size n (fun i => mx 2 (f1 i) (f2 i)) w) := by
  have H1 := Lib.hid h1
  have H2 := Lib.hid h2
  clear h1 h2
  go_enter Try.func27, Try.ntmps27
  go_wp2
  go_loopw [7, 8] (fun v7 v8 wr => ∃ k : Nat, k ≤ n ∧ v8 = .int .i64 k ∧ Hid (wr.ownsRow w.heap.size 4 1 v7 k (BL (fun i => mx 2 (f1 i) (f2 i)) k)) ∧ Hid (Below w.heap.size w wr)) (fun _ v8 _ => n - (intOf v8).toNat)
  case atStart => exact ⟨0, Nat.zero_le _, rfl, Lib.hid (World.ownsRow_nil _ _ _ _), Lib.hid (Below.refl _ _)⟩
  case round =>
    obtain ⟨k, hk, rfl, HO, HBl⟩ := hrel
    by_cases hlt : k < n
    · have e1 := (H1.out.below HBl.out H1.out.1).2 k hlt
      have e2 := (H2.out.below HBl.out H2.out.1).2 k hlt
      have d1 : wr.drew.cell? ⟨g1, k, none⟩ = some (.bool (f1 k)) := e1
      have d2 : wr.drew.cell? ⟨g2, k, none⟩ = some (.bool (f2 k)) := e2
      have hS := BL_succ (fun i => mx 2 (f1 i) (f2 i)) k
      have hz := HBl.out.size
      have hg1 : g1 < wr.heap.size := Nat.lt_of_lt_of_le H1.out.1 hz
      have hg2 : g2 < wr.heap.size := Nat.lt_of_lt_of_le H2.out.1 hz
      obtain ⟨x, ex⟩ : ∃ b, b = f1 k := ⟨_, rfl⟩
      obtain ⟨y, ey⟩ : ∃ b, b = f2 k := ⟨_, rfl⟩
      simp only [← ex, ← ey] at hS
      rw [← ex] at d1
      rw [← ey] at d2
      have hbel : Below wr.heap.size wr (wr.drew.alloc (.cells #[.bool (x != y)] 4)) := (drew_below (Below.refl _ wr) 1).alloc (Nat.le_refl _) _
      obtain ⟨v1, w3, HAP, hown1, hgr⟩ := app_run (wr.drew.alloc (.cells #[.bool (x != y)] 4)) w.heap.size k 1 wr.heap.size 0 1 _ _ [Value.bool (x != y)] (World.ownsRow.alloc HO.out.drew _) rfl (fun j u hj => by
        have := cell_new wr.drew (.bool (x != y)) 4 j u hj
        rw [addr_add] at this
        exact this) (by intro u hu; simp at hu; subst hu; rfl) (by omega) (Nat.le_trans hz hbel.size)
      have HO2 : Hid (w3.ownsRow w.heap.size 4 1 v1 (k + 1) (BL (fun i => mx 2 (f1 i) (f2 i)) (k + 1))) := Lib.hid (by rw [hS]; exact hown1)
      have HB2 : Hid (Below w.heap.size w w3) := Lib.hid (((drew_below HBl.out 1).alloc hz _).grown hgr (by simp; omega) (fun j hj => by have := (HO.out.lt j hj).1; omega))
      have KA : Hid ((wr.drew.alloc (.cells #[.bool (x != y)] 4)).cell? ⟨g1, k, none⟩ = some (.bool x) ∧ (wr.drew.alloc (.cells #[.bool (x != y)] 4)).cell? ⟨g2, k, none⟩ = some (.bool y)) := Lib.hid ⟨(hbel.cell (p := ⟨g1, k, none⟩) hg1).trans d1, (hbel.cell (p := ⟨g2, k, none⟩) hg2).trans d2⟩
      have KB : Hid (w3.cell? ⟨g1, k, none⟩ = some (.bool x) ∧ w3.cell? ⟨g2, k, none⟩ = some (.bool y)) := Lib.hid ⟨by rw [ex]; exact (H1.out.below HB2.out H1.out.1).2 k hlt, by rw [ey]; exact (H2.out.below HB2.out H2.out.1).2 k hlt⟩
      clear e1 e2 ex ey hS hown1 hgr hbel hz hg1 hg2
      go_wp2_with fail
      refine wp_region_held_drew (S := (fun W => W.cell? ⟨g1, k, none⟩ = some (.bool x) ∧ W.cell? ⟨g2, k, none⟩ = some (.bool y))) (by kernel_rfl) ⟨d1, d2⟩ (fun hHeld => ?_)
      refine wpAnyH_take (i := 0) (oi := ?oi_1) (v := ?_) ?hi_1 (by kernel_rfl) ?hf_1 (by kernel_rfl) ?hQ_1 ?hy_1 (by assumption) ?_
      case hi_1 => simp only [List.getElem?_toArray, List.getElem?_cons_zero, List.getElem?_cons_succ]; rfl
      case hf_1 => kernel_rfl
      case hQ_1 => exact fun _ _ _ h => h
      case hy_1 =>
        refine Or.inl ⟨by rfl, ?_⟩
        intro W hSw
        obtain ⟨q1, q2⟩ := hSw
        go_simp
        try with_reducible rfl
      try simp only [Act.put, List.setIfInBounds_toArray, List.set_cons_zero, List.set_cons_succ]
      refine wpAnyH_take (i := 1) (oi := ?oi_2) (v := ?_) ?hi_2 (by kernel_rfl) ?hf_2 (by kernel_rfl) ?hQ_2 ?hy_2 (by assumption) ?_
      case hi_2 => simp only [List.getElem?_toArray, List.getElem?_cons_zero, List.getElem?_cons_succ]; rfl
      case hf_2 => kernel_rfl
      case hQ_2 => exact fun _ _ _ h => h
      case hy_2 =>
        refine Or.inl ⟨by rfl, ?_⟩
        intro W hSw
        obtain ⟨q1, q2⟩ := hSw
        go_simp
        try with_reducible rfl
      try simp only [Act.put, List.setIfInBounds_toArray, List.set_cons_zero, List.set_cons_succ]
      refine wpAnyH_take (i := 2) (oi := ?oi_3) (v := ?_) ?hi_3 (by kernel_rfl) ?hf_3 (by kernel_rfl) ?hQ_3 ?hy_3 (by assumption) ?_
      case hi_3 => simp only [List.getElem?_toArray, List.getElem?_cons_zero, List.getElem?_cons_succ]; rfl
      case hf_3 => kernel_rfl
      case hQ_3 => exact fun _ _ _ h => h
      case hy_3 =>
        refine Or.inl ⟨by rfl, ?_⟩
        intro W hSw
        obtain ⟨q1, q2⟩ := hSw
        go_simp
        try with_reducible rfl
      try simp only [Act.put, List.setIfInBounds_toArray, List.set_cons_zero, List.set_cons_succ]
      refine wpAnyH_take (i := 3) (oi := ?oi_4) (v := ?_) ?hi_4 (by kernel_rfl) ?hf_4 (by kernel_rfl) ?hQ_4 ?hy_4 (by assumption) ?_
      case hi_4 => simp only [List.getElem?_toArray, List.getElem?_cons_zero, List.getElem?_cons_succ]; rfl
      case hf_4 => kernel_rfl
      case hQ_4 => exact fun _ _ _ h => h
      case hy_4 =>
        refine Or.inl ⟨by rfl, ?_⟩
        intro W hSw
        obtain ⟨q1, q2⟩ := hSw
        go_simp
        try with_reducible rfl
      try simp only [Act.put, List.setIfInBounds_toArray, List.set_cons_zero, List.set_cons_succ]
      refine wpAnyH_take (i := 4) (oi := ?oi_5) (v := ?_) ?hi_5 (by kernel_rfl) ?hf_5 (by kernel_rfl) ?hQ_5 ?hy_5 (by assumption) ?_
      case hi_5 => simp only [List.getElem?_toArray, List.getElem?_cons_zero, List.getElem?_cons_succ]; rfl
      case hf_5 => kernel_rfl
      case hQ_5 => exact fun _ _ _ h => h
      case hy_5 =>
        refine Or.inl ⟨by rfl, ?_⟩
        intro W hSw
        obtain ⟨q1, q2⟩ := hSw
        go_simp
        try with_reducible rfl
      try simp only [Act.put, List.setIfInBounds_toArray, List.set_cons_zero, List.set_cons_succ]
      refine wpAnyH_take (i := 5) (oi := ?oi_6) (v := ?_) ?hi_6 (by kernel_rfl) ?hf_6 (by kernel_rfl) ?hQ_6 ?hy_6 (by assumption) ?_
      case hi_6 => simp only [List.getElem?_toArray, List.getElem?_cons_zero, List.getElem?_cons_succ]; rfl
      case hf_6 => kernel_rfl
      case hQ_6 => exact fun _ _ _ h => h
      case hy_6 =>
        refine Or.inl ⟨by rfl, ?_⟩
        intro W hSw
        obtain ⟨q1, q2⟩ := hSw
        go_simp
        try with_reducible rfl
      try simp only [Act.put, List.setIfInBounds_toArray, List.set_cons_zero, List.set_cons_succ]
      refine wpAnyH_take (i := 6) (oi := ?oi_7) (v := ?_) ?hi_7 (by kernel_rfl) ?hf_7 (by kernel_rfl) ?hQ_7 ?hy_7 (by assumption) ?_
      case hi_7 => simp only [List.getElem?_toArray, List.getElem?_cons_zero, List.getElem?_cons_succ]; rfl
      case hf_7 => kernel_rfl
      case hQ_7 => exact fun _ _ _ h => h
      case hy_7 =>
        refine Or.inl ⟨by rfl, ?_⟩
        intro W hSw
        obtain ⟨q1, q2⟩ := hSw
        go_simp
        try with_reducible rfl
      try simp only [Act.put, List.setIfInBounds_toArray, List.set_cons_zero, List.set_cons_succ]
      refine wpAnyH_take (i := 7) (oi := ?oi_8) (v := ?_) ?hi_8 (by kernel_rfl) ?hf_8 (by kernel_rfl) ?hQ_8 ?hy_8 (by assumption) ?_
      case hi_8 => simp only [List.getElem?_toArray, List.getElem?_cons_zero, List.getElem?_cons_succ]; rfl
      case hf_8 => kernel_rfl
      case hQ_8 => exact fun _ _ _ h => h
      case hy_8 =>
        refine Or.inl ⟨by rfl, ?_⟩
        intro W hSw
        obtain ⟨q1, q2⟩ := hSw
        go_simp
        try with_reducible rfl
      try simp only [Act.put, List.setIfInBounds_toArray, List.set_cons_zero, List.set_cons_succ]
      refine wpAnyH_take (i := 8) (oi := ?oi_9) (v := ?_) ?hi_9 (by kernel_rfl) ?hf_9 (by kernel_rfl) ?hQ_9 ?hy_9 (by assumption) ?_
      case hi_9 => simp only [List.getElem?_toArray, List.getElem?_cons_zero, List.getElem?_cons_succ]; rfl
      case hf_9 => kernel_rfl
      case hQ_9 => exact fun _ _ _ h => h
      case hy_9 =>
        refine Or.inl ⟨by rfl, ?_⟩
        intro W hSw
        obtain ⟨q1, q2⟩ := hSw
        go_simp
        try with_reducible rfl
      try simp only [Act.put, List.setIfInBounds_toArray, List.set_cons_zero, List.set_cons_succ]
      refine wpAnyH_take (i := 9) (oi := ?oi_10) (v := ?_) ?hi_10 (by kernel_rfl) ?hf_10 (by kernel_rfl) ?hQ_10 ?hy_10 (by assumption) ?_
      case hi_10 => simp only [List.getElem?_toArray, List.getElem?_cons_zero, List.getElem?_cons_succ]; rfl
      case hf_10 => kernel_rfl
      case hQ_10 => exact fun _ _ _ h => h
      case hy_10 =>
        refine Or.inl ⟨by rfl, ?_⟩
        intro W hSw
        obtain ⟨q1, q2⟩ := hSw
        go_simp
        try with_reducible rfl
      try simp only [Act.put, List.setIfInBounds_toArray, List.set_cons_zero, List.set_cons_succ]
      refine wpAnyH_ready (rs := [10]) (by kernel_rfl) (by simp) ?_
      refine AllReadyH.cons (o := ?oi_11) ?hi_11 (fun K hK => ?_) AllReadyH.nil
      case hi_11 => simp only [List.getElem?_toArray, List.getElem?_cons_zero, List.getElem?_cons_succ]; rfl
      go_simp
      refine hK.out _ _ KA.out (fun hHeld => ?_)
      clear hK K
      try simp only [Act.put, List.setIfInBounds_toArray, List.set_cons_zero, List.set_cons_succ]
      refine wpAnyH_ready (rs := [11]) (by kernel_rfl) (by simp) ?_
      refine AllReadyH.cons (o := ?oi_12) ?hi_12 (fun K hK => ?_) AllReadyH.nil
      case hi_12 => simp only [List.getElem?_toArray, List.getElem?_cons_zero, List.getElem?_cons_succ]; rfl
      refine step_append_run rfl (.tmp 16) (.tmp 26) 41 rfl u7 (.slice (some ⟨wr.heap.size, 0, none⟩) 1 1) v1 w3 rfl rfl HAP ?_
      refine hK.out _ _ KB.out (fun hHeld => ?_)
      clear hK K
      try simp only [Act.put, List.setIfInBounds_toArray, List.set_cons_zero, List.set_cons_succ]
      refine wpAnyH_take (i := 12) (oi := ?oi_13) (v := ?_) ?hi_13 (by kernel_rfl) ?hf_13 (by kernel_rfl) ?hQ_13 ?hy_13 (by assumption) ?_
      case hi_13 => simp only [List.getElem?_toArray, List.getElem?_cons_zero, List.getElem?_cons_succ]; rfl
      case hf_13 => kernel_rfl
      case hQ_13 => exact fun _ _ _ h => h
      case hy_13 =>
        refine Or.inl ⟨by rfl, ?_⟩
        intro W hSw
        obtain ⟨q1, q2⟩ := hSw
        go_simp
        try with_reducible rfl
      try simp only [Act.put, List.setIfInBounds_toArray, List.set_cons_zero, List.set_cons_succ]
      refine wpAnyH_done (by kernel_rfl) ?_ _
      clear hHeld
      go_wp2
      go_roundw
      case rel => exact ⟨k + 1, by omega, by go_num, HO2, HB2⟩
      case measure => simp [intOf]; omega
    · obtain rfl : n = k := by omega
      go_wp2
      go_ret
      obtain ⟨g, cp, hv, h1, h2, hb, hg⟩ := bo_of_own HO.out (by omega)
      exact ⟨g, cp, by rw [hv]; rfl, h1, by unfold maxLen at h2; omega, hb, hg, HBl.out⟩
end Go.Proofs.Ytmbnaejoiglckaa
