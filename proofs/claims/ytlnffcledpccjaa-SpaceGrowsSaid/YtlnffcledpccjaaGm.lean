/-
  pager.Pager.Write of some bytes.
-/
import Derived.Test.YtlnffcledpccjaaGl
namespace Go.Proofs.Ytlnffcledpccjaa
open Go.RowKit
set_option linter.unusedVariables false
set_option linter.unusedSimpArgs false
def WrPost (A : Pa) (d : Pd) (bb rm gm : Nat) (ad : Ad) (C : Nat × Nat → List Nat) (W : List (Nat × Nat)) (x : Nat × Nat) (o : Nat) (l : List Nat) (w : World) (e : Ending) (w' : World) : Prop :=
  ∃ (d' : Pd) (m' : List Nat) (j : Nat), e = .returned (.int .i64 0) ∧ Mx A d d' bb rm gm ad m' (upd C x (putM (C x) o l)) (x :: W) 3 w w' ∧ j < d.n ∧ d'.tk j = true ∧ d'.pg j = x ∧ (∀ k, k ≠ j → d'.ch k = true → d.ch k = true ∧ d'.pg k = d.pg k)
theorem Mx.put {A : Pa} {d d' : Pd} {bb rm gm : Nat} {ad : Ad} {m' : List Nat} {C : Nat × Nat → List Nat} {W : List (Nat × Nat)} {N : Nat} {w w1 w3 : World} (h : Mx A d d' bb rm gm ad m' C W N w w1) {j o : Nat} {l : List Nat} {x : Nat × Nat} (hj : j < d.n) (ht : d'.tk j = true) (hx : d'.pg j = x) (h0 : 0 < l.length) (ho : o + l.length ≤ d.sd.size) (hb : ∀ y ∈ l, y < 256)
    (hlay : Lay w3 A { d' with ch := setB d'.ch j true }) (hare : Are w3 A.a bb rm gm { ad with mem := putM m' (d.room j + o) l }) (hf : Fr (fun k => foot A d k ∨ k = bb) w1 w3) :
    Mx A d { d' with ch := setB d'.ch j true } bb rm gm ad (putM m' (d.room j + o) l) (upd C x (putM (C x) o l)) (x :: W) N w w3 := by
  have hp := h.pi.write (i := j) (o := o) (l := l) (b := true) (by rw [h.n]; exact hj) ht (by rw [h.size]; exact ho) hb (by rw [decide_eq_true h0, Bool.or_true])
  have hr := h.pi.rin j (by rw [h.n]; exact hj)
  rw [h.size, h.room] at hr
  rw [hx] at hp
  have hp2 : PI { d' with ch := setB d'.ch j true } (putM m' (d.room j + o) l) (upd C x (putM (C x) o l)) (x :: W) (fun _ => False) := by rw [← h.room]; exact hp
  have hpl : d.room j + o + l.length ≤ m'.length := by omega
  refine ⟨hlay, hp2, hare, h.n, h.room, h.size, h.cap, h.ops, h.fr.trans hf, h.ft, by rw [putM_len hpl]; exact h.len, fun q hq => ?_⟩
  rw [putM_get hpl, ← h.out q hq]
  rcases hq j hj with q' | q'
  · rw [if_pos (by omega)]
  · rw [if_neg (by omega), if_neg (by omega)]
set_option maxHeartbeats 2000000 in
set_option maxRecDepth 100000 in
theorem PWrite_ok {w : World} {A : Pa} {d : Pd} {C : Nat × Nat → List Nat} {W : List (Nat × Nat)} {bb rm gm : Nat} {ad : Ad} (h : Lay w A d) (ha : Are w A.a bb rm gm ad) (hdis : ∀ k, ad.mine A.a bb rm gm k → ¬ foot A d k) (hp : PI d ad.mem C W (fun _ => False)) (ho : d.sd.ops < 900000) (hW : W.length ≤ d.sd.cap)
    (a b o n cp g off : Nat) (l : List Nat) (hx : small (a, b)) (hn0 : 0 < n) (hon : o + n ≤ d.sd.size) (hb : Byt w (some ⟨g, off, none⟩) n cp l) (hg1 : ¬ foot A d g) (hg2 : g ≠ bb) :
    Calls Try.prog 16 #[.pointer (some ⟨A.p, 0, none⟩), .int .i64 a, .int .i64 b, .int .i64 o, .slice (some ⟨g, off, none⟩) n cp] w (WrPost A d bb rm gm ad C W (a, b) o l w) := by
  have HB := Lib.hid (reach_ok h ha hdis hp ho hW a b o n hx hon)
  unfold WtPost at HB
  have hlim := ha.lim
  have hml := ha.len
  have HRI := Lib.hid hp.rin
  have HBL : Hid (bb < w.heap.size) := Lib.hid (ha.mlt (.inr (.inl rfl)))
  have HD := Lib.hid hdis
  have HBy := Lib.hid hb
  have HG1 := Lib.hid hg1
  have HG2 := Lib.hid hg2
  clear h ha hdis hp hx hb hg1 hg2
  go_enter Try.func16, Try.ntmps16
  go_wp2_with (go_at_call 40
               refine HB.out.mono ?_
               rintro e w1 ⟨j, d1, m1, hj, rfl, hm, ht, hpg, hch⟩
               have HM := Lib.hid hm
               have HT := Lib.hid ht
               have HPG := Lib.hid hpg; have HCHG := Lib.hid hch
               have zz : ∀ i, w1.frozen? ⟨A.fb, i, none⟩ = false := fun i => hm.lay.ffrozen i
               have g5 : w1.cell? ⟨A.fb, j * 6 + 5, none⟩ = some (.bool (d1.ch j)) := hm.lay.fcell (by rw [hm.n]; exact hj) 5 rfl
               clear hm ht hpg hch)
  · have hr := HRI.out j hj
    have hR : d1.room j = d.room j := by rw [HM.out.room]
    have hFY : Fr (· = A.fb) w1 (w1.setCell ⟨A.fb, j * 6 + 5, none⟩ (.bool true)) := (Fr.refl (· = A.fb) w1).set_ (p := ⟨A.fb, j * 6 + 5, none⟩) rfl _
    have hLY : Lay (w1.setCell ⟨A.fb, j * 6 + 5, none⟩ (.bool true)) A { d1 with ch := setB d1.ch j true } := HM.out.lay.setch (by rw [HM.out.n]; exact hj) true
    obtain ⟨Y, eY⟩ : ∃ Y, Y = w1.setCell ⟨A.fb, j * 6 + 5, none⟩ (.bool true) := ⟨_, rfl⟩
    rw [← eY] at hFY hLY ⊢
    clear eY g5 zz
    have c0 : Y.drew.cell? ⟨A.p, 0, none⟩ = some (.pointer (some ⟨A.a, 0, none⟩)) := hLY.blk.cell 0
    have f0 : Y.drew.cell? ⟨A.fb, j * 6, none⟩ = some (.int .i64 (d.room j)) := by rw [← hR]; exact (hLY.drewN 1).fcell (by show j < d1.n; rw [HM.out.n]; exact hj) 0 rfl
    have hAY : Are Y A.a bb rm gm { ad with mem := m1 } := HM.out.are.fr hFY (fun k hk e => HD.out k hk (.inr (.inl e)))
    have hBY : Byt Y (some ⟨g, off, none⟩) n cp l := (HBy.out.fr HM.out.fr (by rintro (q | q); exact HG1.out q; exact HG2.out q)).fr hFY (fun e => HG1.out (.inr (.inl e)))
    have hCp := Copy_ok A.a bb rm gm { ad with mem := m1 } (d.room j + o) n cp (some ⟨g, off, none⟩) l Y.drew (hAY.drewN 1) (hBY.drewN 1) hn0 (by show d.room j + o + n ≤ ad.sz; omega)
    have hwr : (d.room j : Int) + (o : Int) = IntKind.i64.wrap ((d.room j : Int) + (o : Int)) := by rw [IntKind.wrap_i64]; omega
    rw [Int.natCast_add, hwr] at hCp
    clear hwr
    have HCp := Lib.hid hCp
    have HRM := Lib.hid hR
    have HLY := Lib.hid hLY
    have HFY := Lib.hid hFY
    have HFB := Lib.hid (show ¬ A.p = bb from fun e => HD.out bb (.inr (.inl rfl)) (.inl e.symm))
    clear hCp hR hLY hFY hAY hBY
    refine wp_region_held_drew (S := (fun W => W.cell? ⟨A.p, 0, none⟩ = some (.pointer (some ⟨A.a, 0, none⟩)) ∧ W.cell? ⟨A.fb, j * 6, none⟩ = some (.int .i64 (d.room j)))) (by kernel_rfl) ⟨c0, f0⟩ (fun hHeld => ?_)
    refine wpAnyH_take (i := 0) (oi := ?oi_1) (v := ?_) ?hi_1 (by kernel_rfl) ?hf_1 (by kernel_rfl) ?hQ_1 ?hy_1 (by assumption) ?_
    case hi_1 => simp only [List.getElem?_toArray, List.getElem?_cons_zero, List.getElem?_cons_succ]; rfl
    case hf_1 => kernel_rfl
    case hQ_1 => exact fun _ _ _ h => h
    case hy_1 =>
      refine Or.inl ⟨by rfl, ?_⟩
      intro W hSw
      obtain ⟨q0, q1⟩ := hSw
      go_simp
      try with_reducible rfl
    try simp only [Act.put, List.setIfInBounds_toArray, List.set_cons_zero, List.set_cons_succ]
    refine wpAnyH_take (i := 1) (oi := ?oi_2) (v := ?_) ?hi_2 (by kernel_rfl) ?hf_2 (by kernel_rfl) ?hQ_2 ?hy_2 (by assumption) ?_
    case hi_2 => simp only [List.getElem?_toArray, List.getElem?_cons_zero, List.getElem?_cons_succ]; rfl
    case hf_2 => kernel_rfl
    case hQ_2 => exact fun _ _ _ h => h
    case hy_2 =>
      refine Or.inl ⟨by rfl, ?_⟩
      intro W hSw
      obtain ⟨q0, q1⟩ := hSw
      go_simp
      try with_reducible rfl
    try simp only [Act.put, List.setIfInBounds_toArray, List.set_cons_zero, List.set_cons_succ]
    refine wpAnyH_take (i := 2) (oi := ?oi_3) (v := ?_) ?hi_3 (by kernel_rfl) ?hf_3 (by kernel_rfl) ?hQ_3 ?hy_3 (by assumption) ?_
    case hi_3 => simp only [List.getElem?_toArray, List.getElem?_cons_zero, List.getElem?_cons_succ]; rfl
    case hf_3 => kernel_rfl
    case hQ_3 => exact fun _ _ _ h => h
    case hy_3 =>
      refine Or.inl ⟨by rfl, ?_⟩
      intro W hSw
      obtain ⟨q0, q1⟩ := hSw
      go_simp
      try with_reducible rfl
    try simp only [Act.put, List.setIfInBounds_toArray, List.set_cons_zero, List.set_cons_succ]
    refine wpAnyH_take (i := 3) (oi := ?oi_4) (v := ?_) ?hi_4 (by kernel_rfl) ?hf_4 (by kernel_rfl) ?hQ_4 ?hy_4 (by assumption) ?_
    case hi_4 => simp only [List.getElem?_toArray, List.getElem?_cons_zero, List.getElem?_cons_succ]; rfl
    case hf_4 => kernel_rfl
    case hQ_4 => exact fun _ _ _ h => h
    case hy_4 =>
      refine Or.inl ⟨by rfl, ?_⟩
      intro W hSw
      obtain ⟨q0, q1⟩ := hSw
      go_simp
      try with_reducible rfl
    try simp only [Act.put, List.setIfInBounds_toArray, List.set_cons_zero, List.set_cons_succ]
    refine wpAnyH_take (i := 4) (oi := ?oi_5) (v := ?_) ?hi_5 (by kernel_rfl) ?hf_5 (by kernel_rfl) ?hQ_5 ?hy_5 (by assumption) ?_
    case hi_5 => simp only [List.getElem?_toArray, List.getElem?_cons_zero, List.getElem?_cons_succ]; rfl
    case hf_5 => kernel_rfl
    case hQ_5 => exact fun _ _ _ h => h
    case hy_5 =>
      refine Or.inl ⟨by rfl, ?_⟩
      intro W hSw
      obtain ⟨q0, q1⟩ := hSw
      go_simp
      try with_reducible rfl
    try simp only [Act.put, List.setIfInBounds_toArray, List.set_cons_zero, List.set_cons_succ]
    refine wpAnyH_take (i := 5) (oi := ?oi_6) (v := ?_) ?hi_6 (by kernel_rfl) ?hf_6 (by kernel_rfl) ?hQ_6 ?hy_6 (by assumption) ?_
    case hi_6 => simp only [List.getElem?_toArray, List.getElem?_cons_zero, List.getElem?_cons_succ]; rfl
    case hf_6 => kernel_rfl
    case hQ_6 => exact fun _ _ _ h => h
    case hy_6 =>
      refine Or.inl ⟨by rfl, ?_⟩
      intro W hSw
      obtain ⟨q0, q1⟩ := hSw
      go_simp
      try with_reducible rfl
    try simp only [Act.put, List.setIfInBounds_toArray, List.set_cons_zero, List.set_cons_succ]
    refine wpAnyH_take (i := 6) (oi := ?oi_7) (v := ?_) ?hi_7 (by kernel_rfl) ?hf_7 (by kernel_rfl) ?hQ_7 ?hy_7 (by assumption) ?_
    case hi_7 => simp only [List.getElem?_toArray, List.getElem?_cons_zero, List.getElem?_cons_succ]; rfl
    case hf_7 => kernel_rfl
    case hQ_7 => exact fun _ _ _ h => h
    case hy_7 =>
      refine Or.inl ⟨by rfl, ?_⟩
      intro W hSw
      obtain ⟨q0, q1⟩ := hSw
      go_simp
      try with_reducible rfl
    try simp only [Act.put, List.setIfInBounds_toArray, List.set_cons_zero, List.set_cons_succ]
    refine wpAnyH_take (i := 7) (oi := ?oi_8) (v := ?_) ?hi_8 (by kernel_rfl) ?hf_8 (by kernel_rfl) ?hQ_8 ?hy_8 (by assumption) ?_
    case hi_8 => simp only [List.getElem?_toArray, List.getElem?_cons_zero, List.getElem?_cons_succ]; rfl
    case hf_8 => kernel_rfl
    case hQ_8 => exact fun _ _ _ h => h
    case hy_8 =>
      refine Or.inl ⟨by rfl, ?_⟩
      intro W hSw
      obtain ⟨q0, q1⟩ := hSw
      go_simp
      try with_reducible rfl
    try simp only [Act.put, List.setIfInBounds_toArray, List.set_cons_zero, List.set_cons_succ]
    refine wpAnyH_take (i := 8) (oi := ?oi_9) (v := ?_) ?hi_9 (by kernel_rfl) ?hf_9 (by kernel_rfl) ?hQ_9 ?hy_9 (by assumption) ?_
    case hi_9 => simp only [List.getElem?_toArray, List.getElem?_cons_zero, List.getElem?_cons_succ]; rfl
    case hf_9 => kernel_rfl
    case hQ_9 => exact fun _ _ _ h => h
    case hy_9 =>
      refine Or.inl ⟨by rfl, ?_⟩
      intro W hSw
      obtain ⟨q0, q1⟩ := hSw
      go_simp
      try with_reducible rfl
    try simp only [Act.put, List.setIfInBounds_toArray, List.set_cons_zero, List.set_cons_succ]
    refine wpAnyH_take (i := 9) (oi := ?oi_10) (v := ?_) ?hi_10 (by kernel_rfl) ?hf_10 (by kernel_rfl) ?hQ_10 ?hy_10 (by assumption) ?_
    case hi_10 => simp only [List.getElem?_toArray, List.getElem?_cons_zero, List.getElem?_cons_succ]; rfl
    case hf_10 => kernel_rfl
    case hQ_10 => exact fun _ _ _ h => h
    case hy_10 =>
      refine Or.inl ⟨by rfl, ?_⟩
      intro W hSw
      obtain ⟨q0, q1⟩ := hSw
      go_simp
      try with_reducible rfl
    try simp only [Act.put, List.setIfInBounds_toArray, List.set_cons_zero, List.set_cons_succ]
    refine wpAnyH_take (i := 10) (oi := ?oi_11) (v := ?_) ?hi_11 (by kernel_rfl) ?hf_11 (by kernel_rfl) ?hQ_11 ?hy_11 (by assumption) ?_
    case hi_11 => simp only [List.getElem?_toArray, List.getElem?_cons_zero, List.getElem?_cons_succ]; rfl
    case hf_11 => kernel_rfl
    case hQ_11 => exact fun _ _ _ h => h
    case hy_11 =>
      refine Or.inl ⟨by rfl, ?_⟩
      intro W hSw
      obtain ⟨q0, q1⟩ := hSw
      go_simp
      try with_reducible rfl
    try simp only [Act.put, List.setIfInBounds_toArray, List.set_cons_zero, List.set_cons_succ]
    refine wpAnyH_ready (rs := [11]) (by kernel_rfl) (by simp) ?_
    refine AllReadyH.cons (o := ?oi_12) ?hi_12 (fun K hK => ?_) AllReadyH.nil
    case hi_12 => simp only [List.getElem?_toArray, List.getElem?_cons_zero, List.getElem?_cons_succ]; rfl
    go_simp
    (go_at_call 42
     refine HCp.out.mono ?_
     rintro e w3 ⟨rfl, h3, f3⟩
     have HA3 := Lib.hid h3
     have HF3 : Hid (Fr (· = bb) Y w3) := Lib.hid f3.undrew
     have HL3 := Lib.hid (HLY.out.fr f3.undrew (fun k hk e => HD.out bb (.inr (.inl rfl)) (by subst e; rcases HM.out.ft k hk with q | q; exact q; exact absurd HBL.out (by omega))))
     have hK2 : w3.cell? ⟨A.p, 0, none⟩ = some (.pointer (some ⟨A.a, 0, none⟩)) ∧ w3.cell? ⟨A.fb, j * 6, none⟩ = some (.int .i64 (d.room j)) := ⟨HL3.out.blk.cell 0, by rw [← HRM.out]; exact HL3.out.fcell (by show j < d1.n; rw [HM.out.n]; exact hj) 0 rfl⟩
     clear h3 f3)
    refine hK.out _ _ hK2 (fun hHeld => ?_)
    clear hK K
    try simp only [Act.put, List.setIfInBounds_toArray, List.set_cons_zero, List.set_cons_succ]
    refine wpAnyH_take (i := 12) (oi := ?oi_13) (v := ?_) ?hi_13 (by kernel_rfl) ?hf_13 (by kernel_rfl) ?hQ_13 ?hy_13 (by assumption) ?_
    case hi_13 => simp only [List.getElem?_toArray, List.getElem?_cons_zero, List.getElem?_cons_succ]; rfl
    case hf_13 => kernel_rfl
    case hQ_13 => exact fun _ _ _ h => h
    case hy_13 =>
      refine Or.inl ⟨by rfl, ?_⟩
      intro W hSw
      obtain ⟨q0, q1⟩ := hSw
      go_simp
      try with_reducible rfl
    try simp only [Act.put, List.setIfInBounds_toArray, List.set_cons_zero, List.set_cons_succ]
    refine wpAnyH_done (by kernel_rfl) ?_ _
    clear hHeld hK2 c0 f0
    go_wp2
    go_ret
    exact ⟨_, _, j, rfl, HM.out.put hj HT.out HPG.out (by rw [HBy.out.1]; exact hn0) (by rw [HBy.out.1]; exact hon) HBy.out.2.1 HL3.out HA3.out ((HFY.out.more (fun k hk => .inl (.inr (.inl hk)))).trans (HF3.out.more (fun k hk => .inr hk))), hj, HT.out, HPG.out, fun k hk q => HCHG.out k (by simpa [setB, hk] using q)⟩
  · have hr := HRI.out j hj
    have hR : d1.room j = d.room j := by rw [HM.out.room]
    have hFY : Fr (· = A.fb) w1 (w1.setCell ⟨A.fb, j * 6 + 5, none⟩ (.bool true)) := (Fr.refl (· = A.fb) w1).set_ (p := ⟨A.fb, j * 6 + 5, none⟩) rfl _
    have hLY : Lay (w1.setCell ⟨A.fb, j * 6 + 5, none⟩ (.bool true)) A { d1 with ch := setB d1.ch j true } := HM.out.lay.setch (by rw [HM.out.n]; exact hj) true
    obtain ⟨Y, eY⟩ : ∃ Y, Y = w1.setCell ⟨A.fb, j * 6 + 5, none⟩ (.bool true) := ⟨_, rfl⟩
    rw [← eY] at hFY hLY ⊢
    clear eY g5 zz
    have c0 : Y.drew.cell? ⟨A.p, 0, none⟩ = some (.pointer (some ⟨A.a, 0, none⟩)) := hLY.blk.cell 0
    have f0 : Y.drew.cell? ⟨A.fb, j * 6, none⟩ = some (.int .i64 (d.room j)) := by rw [← hR]; exact (hLY.drewN 1).fcell (by show j < d1.n; rw [HM.out.n]; exact hj) 0 rfl
    have hAY : Are Y A.a bb rm gm { ad with mem := m1 } := HM.out.are.fr hFY (fun k hk e => HD.out k hk (.inr (.inl e)))
    have hBY : Byt Y (some ⟨g, off, none⟩) n cp l := (HBy.out.fr HM.out.fr (by rintro (q | q); exact HG1.out q; exact HG2.out q)).fr hFY (fun e => HG1.out (.inr (.inl e)))
    have hCp := Copy_ok A.a bb rm gm { ad with mem := m1 } (d.room j + o) n cp (some ⟨g, off, none⟩) l Y.drew (hAY.drewN 1) (hBY.drewN 1) hn0 (by show d.room j + o + n ≤ ad.sz; omega)
    have hwr : (d.room j : Int) + (o : Int) = IntKind.i64.wrap ((d.room j : Int) + (o : Int)) := by rw [IntKind.wrap_i64]; omega
    rw [Int.natCast_add, hwr] at hCp
    clear hwr
    have HCp := Lib.hid hCp
    have HRM := Lib.hid hR
    have HLY := Lib.hid hLY
    have HFY := Lib.hid hFY
    have HFB := Lib.hid (show ¬ A.p = bb from fun e => HD.out bb (.inr (.inl rfl)) (.inl e.symm))
    clear hCp hR hLY hFY hAY hBY
    refine wp_region_held_drew (S := (fun W => W.cell? ⟨A.p, 0, none⟩ = some (.pointer (some ⟨A.a, 0, none⟩)) ∧ W.cell? ⟨A.fb, j * 6, none⟩ = some (.int .i64 (d.room j)))) (by kernel_rfl) ⟨c0, f0⟩ (fun hHeld => ?_)
    refine wpAnyH_take (i := 0) (oi := ?oi_14) (v := ?_) ?hi_14 (by kernel_rfl) ?hf_14 (by kernel_rfl) ?hQ_14 ?hy_14 (by assumption) ?_
    case hi_14 => simp only [List.getElem?_toArray, List.getElem?_cons_zero, List.getElem?_cons_succ]; rfl
    case hf_14 => kernel_rfl
    case hQ_14 => exact fun _ _ _ h => h
    case hy_14 =>
      refine Or.inl ⟨by rfl, ?_⟩
      intro W hSw
      obtain ⟨q0, q1⟩ := hSw
      go_simp
      try with_reducible rfl
    try simp only [Act.put, List.setIfInBounds_toArray, List.set_cons_zero, List.set_cons_succ]
    refine wpAnyH_take (i := 1) (oi := ?oi_15) (v := ?_) ?hi_15 (by kernel_rfl) ?hf_15 (by kernel_rfl) ?hQ_15 ?hy_15 (by assumption) ?_
    case hi_15 => simp only [List.getElem?_toArray, List.getElem?_cons_zero, List.getElem?_cons_succ]; rfl
    case hf_15 => kernel_rfl
    case hQ_15 => exact fun _ _ _ h => h
    case hy_15 =>
      refine Or.inl ⟨by rfl, ?_⟩
      intro W hSw
      obtain ⟨q0, q1⟩ := hSw
      go_simp
      try with_reducible rfl
    try simp only [Act.put, List.setIfInBounds_toArray, List.set_cons_zero, List.set_cons_succ]
    refine wpAnyH_take (i := 2) (oi := ?oi_16) (v := ?_) ?hi_16 (by kernel_rfl) ?hf_16 (by kernel_rfl) ?hQ_16 ?hy_16 (by assumption) ?_
    case hi_16 => simp only [List.getElem?_toArray, List.getElem?_cons_zero, List.getElem?_cons_succ]; rfl
    case hf_16 => kernel_rfl
    case hQ_16 => exact fun _ _ _ h => h
    case hy_16 =>
      refine Or.inl ⟨by rfl, ?_⟩
      intro W hSw
      obtain ⟨q0, q1⟩ := hSw
      go_simp
      try with_reducible rfl
    try simp only [Act.put, List.setIfInBounds_toArray, List.set_cons_zero, List.set_cons_succ]
    refine wpAnyH_take (i := 3) (oi := ?oi_17) (v := ?_) ?hi_17 (by kernel_rfl) ?hf_17 (by kernel_rfl) ?hQ_17 ?hy_17 (by assumption) ?_
    case hi_17 => simp only [List.getElem?_toArray, List.getElem?_cons_zero, List.getElem?_cons_succ]; rfl
    case hf_17 => kernel_rfl
    case hQ_17 => exact fun _ _ _ h => h
    case hy_17 =>
      refine Or.inl ⟨by rfl, ?_⟩
      intro W hSw
      obtain ⟨q0, q1⟩ := hSw
      go_simp
      try with_reducible rfl
    try simp only [Act.put, List.setIfInBounds_toArray, List.set_cons_zero, List.set_cons_succ]
    refine wpAnyH_take (i := 4) (oi := ?oi_18) (v := ?_) ?hi_18 (by kernel_rfl) ?hf_18 (by kernel_rfl) ?hQ_18 ?hy_18 (by assumption) ?_
    case hi_18 => simp only [List.getElem?_toArray, List.getElem?_cons_zero, List.getElem?_cons_succ]; rfl
    case hf_18 => kernel_rfl
    case hQ_18 => exact fun _ _ _ h => h
    case hy_18 =>
      refine Or.inl ⟨by rfl, ?_⟩
      intro W hSw
      obtain ⟨q0, q1⟩ := hSw
      go_simp
      try with_reducible rfl
    try simp only [Act.put, List.setIfInBounds_toArray, List.set_cons_zero, List.set_cons_succ]
    refine wpAnyH_take (i := 5) (oi := ?oi_19) (v := ?_) ?hi_19 (by kernel_rfl) ?hf_19 (by kernel_rfl) ?hQ_19 ?hy_19 (by assumption) ?_
    case hi_19 => simp only [List.getElem?_toArray, List.getElem?_cons_zero, List.getElem?_cons_succ]; rfl
    case hf_19 => kernel_rfl
    case hQ_19 => exact fun _ _ _ h => h
    case hy_19 =>
      refine Or.inl ⟨by rfl, ?_⟩
      intro W hSw
      obtain ⟨q0, q1⟩ := hSw
      go_simp
      try with_reducible rfl
    try simp only [Act.put, List.setIfInBounds_toArray, List.set_cons_zero, List.set_cons_succ]
    refine wpAnyH_take (i := 6) (oi := ?oi_20) (v := ?_) ?hi_20 (by kernel_rfl) ?hf_20 (by kernel_rfl) ?hQ_20 ?hy_20 (by assumption) ?_
    case hi_20 => simp only [List.getElem?_toArray, List.getElem?_cons_zero, List.getElem?_cons_succ]; rfl
    case hf_20 => kernel_rfl
    case hQ_20 => exact fun _ _ _ h => h
    case hy_20 =>
      refine Or.inl ⟨by rfl, ?_⟩
      intro W hSw
      obtain ⟨q0, q1⟩ := hSw
      go_simp
      try with_reducible rfl
    try simp only [Act.put, List.setIfInBounds_toArray, List.set_cons_zero, List.set_cons_succ]
    refine wpAnyH_take (i := 7) (oi := ?oi_21) (v := ?_) ?hi_21 (by kernel_rfl) ?hf_21 (by kernel_rfl) ?hQ_21 ?hy_21 (by assumption) ?_
    case hi_21 => simp only [List.getElem?_toArray, List.getElem?_cons_zero, List.getElem?_cons_succ]; rfl
    case hf_21 => kernel_rfl
    case hQ_21 => exact fun _ _ _ h => h
    case hy_21 =>
      refine Or.inl ⟨by rfl, ?_⟩
      intro W hSw
      obtain ⟨q0, q1⟩ := hSw
      go_simp
      try with_reducible rfl
    try simp only [Act.put, List.setIfInBounds_toArray, List.set_cons_zero, List.set_cons_succ]
    refine wpAnyH_take (i := 8) (oi := ?oi_22) (v := ?_) ?hi_22 (by kernel_rfl) ?hf_22 (by kernel_rfl) ?hQ_22 ?hy_22 (by assumption) ?_
    case hi_22 => simp only [List.getElem?_toArray, List.getElem?_cons_zero, List.getElem?_cons_succ]; rfl
    case hf_22 => kernel_rfl
    case hQ_22 => exact fun _ _ _ h => h
    case hy_22 =>
      refine Or.inl ⟨by rfl, ?_⟩
      intro W hSw
      obtain ⟨q0, q1⟩ := hSw
      go_simp
      try with_reducible rfl
    try simp only [Act.put, List.setIfInBounds_toArray, List.set_cons_zero, List.set_cons_succ]
    refine wpAnyH_take (i := 9) (oi := ?oi_23) (v := ?_) ?hi_23 (by kernel_rfl) ?hf_23 (by kernel_rfl) ?hQ_23 ?hy_23 (by assumption) ?_
    case hi_23 => simp only [List.getElem?_toArray, List.getElem?_cons_zero, List.getElem?_cons_succ]; rfl
    case hf_23 => kernel_rfl
    case hQ_23 => exact fun _ _ _ h => h
    case hy_23 =>
      refine Or.inl ⟨by rfl, ?_⟩
      intro W hSw
      obtain ⟨q0, q1⟩ := hSw
      go_simp
      try with_reducible rfl
    try simp only [Act.put, List.setIfInBounds_toArray, List.set_cons_zero, List.set_cons_succ]
    refine wpAnyH_take (i := 10) (oi := ?oi_24) (v := ?_) ?hi_24 (by kernel_rfl) ?hf_24 (by kernel_rfl) ?hQ_24 ?hy_24 (by assumption) ?_
    case hi_24 => simp only [List.getElem?_toArray, List.getElem?_cons_zero, List.getElem?_cons_succ]; rfl
    case hf_24 => kernel_rfl
    case hQ_24 => exact fun _ _ _ h => h
    case hy_24 =>
      refine Or.inl ⟨by rfl, ?_⟩
      intro W hSw
      obtain ⟨q0, q1⟩ := hSw
      go_simp
      try with_reducible rfl
    try simp only [Act.put, List.setIfInBounds_toArray, List.set_cons_zero, List.set_cons_succ]
    refine wpAnyH_ready (rs := [11]) (by kernel_rfl) (by simp) ?_
    refine AllReadyH.cons (o := ?oi_25) ?hi_25 (fun K hK => ?_) AllReadyH.nil
    case hi_25 => simp only [List.getElem?_toArray, List.getElem?_cons_zero, List.getElem?_cons_succ]; rfl
    go_simp
    (go_at_call 42
     refine HCp.out.mono ?_
     rintro e w3 ⟨rfl, h3, f3⟩
     have HA3 := Lib.hid h3
     have HF3 : Hid (Fr (· = bb) Y w3) := Lib.hid f3.undrew
     have HL3 := Lib.hid (HLY.out.fr f3.undrew (fun k hk e => HD.out bb (.inr (.inl rfl)) (by subst e; rcases HM.out.ft k hk with q | q; exact q; exact absurd HBL.out (by omega))))
     have hK2 : w3.cell? ⟨A.p, 0, none⟩ = some (.pointer (some ⟨A.a, 0, none⟩)) ∧ w3.cell? ⟨A.fb, j * 6, none⟩ = some (.int .i64 (d.room j)) := ⟨HL3.out.blk.cell 0, by rw [← HRM.out]; exact HL3.out.fcell (by show j < d1.n; rw [HM.out.n]; exact hj) 0 rfl⟩
     clear h3 f3)
    refine hK.out _ _ hK2 (fun hHeld => ?_)
    clear hK K
    try simp only [Act.put, List.setIfInBounds_toArray, List.set_cons_zero, List.set_cons_succ]
    refine wpAnyH_take (i := 12) (oi := ?oi_26) (v := ?_) ?hi_26 (by kernel_rfl) ?hf_26 (by kernel_rfl) ?hQ_26 ?hy_26 (by assumption) ?_
    case hi_26 => simp only [List.getElem?_toArray, List.getElem?_cons_zero, List.getElem?_cons_succ]; rfl
    case hf_26 => kernel_rfl
    case hQ_26 => exact fun _ _ _ h => h
    case hy_26 =>
      refine Or.inl ⟨by rfl, ?_⟩
      intro W hSw
      obtain ⟨q0, q1⟩ := hSw
      go_simp
      try with_reducible rfl
    try simp only [Act.put, List.setIfInBounds_toArray, List.set_cons_zero, List.set_cons_succ]
    refine wpAnyH_done (by kernel_rfl) ?_ _
    clear hHeld hK2 c0 f0
    go_wp2
    go_ret
    exact ⟨_, _, j, rfl, HM.out.put hj HT.out HPG.out (by rw [HBy.out.1]; exact hn0) (by rw [HBy.out.1]; exact hon) HBy.out.2.1 HL3.out HA3.out ((HFY.out.more (fun k hk => .inl (.inr (.inl hk)))).trans (HF3.out.more (fun k hk => .inr hk))), hj, HT.out, HPG.out, fun k hk q => HCHG.out k (by simpa [setB, hk] using q)⟩
end Go.Proofs.Ytlnffcledpccjaa
