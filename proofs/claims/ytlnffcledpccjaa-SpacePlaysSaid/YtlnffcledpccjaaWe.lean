/-
  pager.Pager.Write of some bytes.
-/
import Derived.Test.YtlnffcledpccjaaWd
namespace Go.Proofs.Ytlnffcledpccjaa
open Go.RowKit
set_option linter.unusedVariables false
set_option linter.unusedSimpArgs false
def WrPost (A : Pa) (d : Pd) (bb rm gm : Nat) (ad : Ad) (C : Nat × Nat → List Nat) (W : List (Nat × Nat)) (x : Nat × Nat) (o : Nat) (l : List Nat) (w : World) (e : Ending) (w' : World) : Prop :=
  ∃ (d' : Pd) (m' : List Nat) (j : Nat), e = .returned (.int .i64 0) ∧ Mx A d d' bb rm gm ad m' (upd C x (putM (C x) o l)) (x :: W) 3 w w' ∧ j < d.n ∧ d'.tk j = true ∧ d'.pg j = x ∧ (∀ k, k ≠ j → d'.ch k = true → d.ch k = true ∧ d'.pg k = d.pg k)
theorem Mx.put {A : Pa} {d d' : Pd} {bb rm gm : Nat} {ad : Ad} {m' : List Nat} {C : Nat × Nat → List Nat} {W : List (Nat × Nat)} {N : Nat} {w w1 w3 : World} (h : Mx A d d' bb rm gm ad m' C W N w w1) {j o : Nat} {l : List Nat} {x : Nat × Nat} (hj : j < d.n) (ht : d'.tk j = true) (hx : d'.pg j = x) (h0 : 0 < l.length) (ho : o + l.length ≤ d.sd.size) (hb : ∀ y ∈ l, y < 256)
    (hlay : Lay w3 A { d' with ch := setB d'.ch j true }) (hare : Are w3 A.a bb rm gm { ad with mem := putM m' (d.room j + o) l }) (hf : Fr (fun k => foot A d k ∨ k = bb) w1 w3) :
    Mx A d { d' with ch := setB d'.ch j true } bb rm gm ad (putM m' (d.room j + o) l) (upd C x (putM (C x) o l)) (x :: W) N w w3 := by
  have hp := h.pi.write (i := j) (o := o) (l := l) (b := true) (by rw [h.n]; exact hj) ht (by rw [h.size]; exact ho) hb (by rw [decide_eq_true h0, Bool.or_true])
  have hr := h.pi.rin j (by rw [h.n]; exact hj)
  rw [h.size, h.room] at hr
  rw [hx] at hp
  have hp2 : PI { d' with ch := setB d'.ch j true } (putM m' (d.room j + o) l) (upd C x (putM (C x) o l)) (x :: W) (fun _ => False) := by rw [← h.room]; exact hp
  have hpl : d.room j + o + l.length ≤ m'.length := by omega
  refine ⟨hlay, hp2, hare, h.n, h.room, h.size, h.cap, h.ops, h.fr.trans hf, h.ft, by rw [putM_len hpl]; exact h.len, fun q hq => ?_⟩
  rw [putM_get hpl, ← h.out q hq]
  rcases hq j hj with q' | q'
  · rw [if_pos (by omega)]
  · rw [if_neg (by omega), if_neg (by omega)]
set_option maxHeartbeats 2000000 in
set_option maxRecDepth 100000 in
theorem PWrite_ok {w : World} {A : Pa} {d : Pd} {C : Nat × Nat → List Nat} {W : List (Nat × Nat)} {bb rm gm : Nat} {ad : Ad} (h : Lay w A d) (ha : Are w A.a bb rm gm ad) (hdis : ∀ k, ad.mine A.a bb rm gm k → ¬ foot A d k) (hp : PI d ad.mem C W (fun _ => False)) (ho : d.sd.ops < 900000) (hW : W.length ≤ d.sd.cap)
    (a b o n cp g off : Nat) (l : List Nat) (hx : small (a, b)) (hn0 : 0 < n) (hon : o + n ≤ d.sd.size) (hb : Byt w (some ⟨g, off, none⟩) n cp l) (hg1 : ¬ foot A d g) (hg2 : g ≠ bb) :
    Calls Try.prog 16 #[.pointer (some ⟨A.p, 0, none⟩), .int .i64 a, .int .i64 b, .int .i64 o, .slice (some ⟨g, off, none⟩) n cp] w (WrPost A d bb rm gm ad C W (a, b) o l w) := by
  have HB := Lib.hid (reach_ok h ha hdis hp ho hW a b o n hx hon)
  unfold WtPost at HB
  have hlim := ha.lim
  have hml := ha.len
  have HRI := Lib.hid hp.rin
  have HBL : Hid (bb < w.heap.size) := Lib.hid (ha.mlt (.inr (.inl rfl)))
  have HD := Lib.hid hdis
  have HBy := Lib.hid hb
  have HG1 := Lib.hid hg1
  have HG2 := Lib.hid hg2
  clear h ha hdis hp hx hb hg1 hg2
  go_enter Try.func16, Try.ntmps16
  go_wp2_with (go_at_call 40
               refine HB.out.mono ?_
               rintro e w1 ⟨j, d1, m1, hj, rfl, hm, ht, hpg, hch⟩
               have HM := Lib.hid hm
               have HT := Lib.hid ht
               have HPG := Lib.hid hpg; have HCHG := Lib.hid hch
               have zz : ∀ i, w1.frozen? ⟨A.fb, i, none⟩ = false := fun i => hm.lay.ffrozen i
               have g5 : w1.cell? ⟨A.fb, j * 6 + 5, none⟩ = some (.bool (d1.ch j)) := hm.lay.fcell (by rw [hm.n]; exact hj) 5 rfl
               clear hm ht hpg hch)
  · have hr := HRI.out j hj
    have hR : d1.room j = d.room j := by rw [HM.out.room]
    have hFY : Fr (· = A.fb) w1 (w1.setCell ⟨A.fb, j * 6 + 5, none⟩ (.bool true)) := (Fr.refl (· = A.fb) w1).set_ (p := ⟨A.fb, j * 6 + 5, none⟩) rfl _
    have hLY : Lay (w1.setCell ⟨A.fb, j * 6 + 5, none⟩ (.bool true)) A { d1 with ch := setB d1.ch j true } := HM.out.lay.setch (by rw [HM.out.n]; exact hj) true
    obtain ⟨Y, eY⟩ : ∃ Y, Y = w1.setCell ⟨A.fb, j * 6 + 5, none⟩ (.bool true) := ⟨_, rfl⟩
    rw [← eY] at hFY hLY ⊢
    clear eY g5 zz
    have c0 : Y.drew.cell? ⟨A.p, 0, none⟩ = some (.pointer (some ⟨A.a, 0, none⟩)) := hLY.blk.cell 0
    have f0 : Y.drew.cell? ⟨A.fb, j * 6, none⟩ = some (.int .i64 (d.room j)) := by rw [← hR]; exact (hLY.drewN 1).fcell (by show j < d1.n; rw [HM.out.n]; exact hj) 0 rfl
    have hAY : Are Y A.a bb rm gm { ad with mem := m1 } := HM.out.are.fr hFY (fun k hk e => HD.out k hk (.inr (.inl e)))
    have hBY : Byt Y (some ⟨g, off, none⟩) n cp l := (HBy.out.fr HM.out.fr (by rintro (q | q); exact HG1.out q; exact HG2.out q)).fr hFY (fun e => HG1.out (.inr (.inl e)))
    have hCp := Copy_ok A.a bb rm gm { ad with mem := m1 } (d.room j + o) n cp (some ⟨g, off, none⟩) l Y.drew (hAY.drewN 1) (hBY.drewN 1) hn0 (by show d.room j + o + n ≤ ad.sz; omega)
    have hwr : (d.room j : Int) + (o : Int) = IntKind.i64.wrap ((d.room j : Int) + (o : Int)) := by rw [IntKind.wrap_i64]; omega
    rw [Int.natCast_add, hwr] at hCp
    clear hwr
    have HCp := Lib.hid hCp
    have HRM := Lib.hid hR
    have HLY := Lib.hid hLY
    have HFY := Lib.hid hFY
    have HFB := Lib.hid (show ¬ A.p = bb from fun e => HD.out bb (.inr (.inl rfl)) (.inl e.symm))
    clear hCp hR hLY hFY hAY hBY
    refine wp_region_held_drew (S := (fun W => W.cell? ⟨A.p, 0, none⟩ = some (.pointer (some ⟨A.a, 0, none⟩)) ∧ W.cell? ⟨A.fb, j * 6, none⟩ = some (.int .i64 (d.room j)))) (by kernel_rfl) ⟨c0, f0⟩ (fun hHeld => ?_)
    refine wpAnyH_take (i := 0) (oi := ?oi_1) (v := ?_) ?hi_1 (by kernel_rfl) ?hf_1 (by kernel_rfl) ?hQ_1 ?hy_1 (by assumption) ?_
    case hi_1 => simp only [List.getElem?_toArray, List.getElem?_cons_zero, List.getElem?_cons_succ]; rfl
    case hf_1 => kernel_rfl
    case hQ_1 => exact fun _ _ _ h => h
    case hy_1 =>
      refine Or.inl ⟨by rfl, ?_⟩
      intro W hSw
      obtain ⟨q0, q1⟩ := hSw
      go_simp
      try with_reducible rfl
    try simp only [Act.put, List.setIfInBounds_toArray, List.set_cons_zero, List.set_cons_succ]
    refine wpAnyH_take (i := 1) (oi := ?oi_2) (v := ?_) ?hi_2 (by kernel_rfl) ?hf_2 (by kernel_rfl) ?hQ_2 ?hy_2 (by assumption) ?_
    case hi_2 => simp only [List.getElem?_toArray, List.getElem?_cons_zero, List.getElem?_cons_succ]; rfl
    case hf_2 => kernel_rfl
    case hQ_2 => exact fun _ _ _ h => h
    case hy_2 =>
      refine Or.inl ⟨by rfl, ?_⟩
      intro W hSw
      obtain ⟨q0, q1⟩ := hSw
      go_simp
      try with_reducible rfl
    try simp only [Act.put, List.setIfInBounds_toArray, List.set_cons_zero, List.set_cons_succ]
    refine wpAnyH_take (i := 2) (oi := ?oi_3) (v := ?_) ?hi_3 (by kernel_rfl) ?hf_3 (by kernel_rfl) ?hQ_3 ?hy_3 (by assumption) ?_
    case hi_3 => simp only [List.getElem?_toArray, List.getElem?_cons_zero, List.getElem?_cons_succ]; rfl
    case hf_3 => kernel_rfl
    case hQ_3 => exact fun _ _ _ h => h
    case hy_3 =>
      refine Or.inl ⟨by rfl, ?_⟩
      intro W hSw
      obtain ⟨q0, q1⟩ := hSw
      go_simp
      try with_reducible rfl
    try simp only [Act.put, List.setIfInBounds_toArray, List.set_cons_zero, List.set_cons_succ]
    refine wpAnyH_take (i := 3) (oi := ?oi_4) (v := ?_) ?hi_4 (by kernel_rfl) ?hf_4 (by kernel_rfl) ?hQ_4 ?hy_4 (by assumption) ?_
    case hi_4 => simp only [List.getElem?_toArray, List.getElem?_cons_zero, List.getElem?_cons_succ]; rfl
    case hf_4 => kernel_rfl
    case hQ_4 => exact fun _ _ _ h => h
    case hy_4 =>
      refine Or.inl ⟨by rfl, ?_⟩
      intro W hSw
      obtain ⟨q0, q1⟩ := hSw
      go_simp
      try with_reducible rfl
    try simp only [Act.put, List.setIfInBounds_toArray, List.set_cons_zero, List.set_cons_succ]
    refine wpAnyH_take (i := 4) (oi := ?oi_5) (v := ?_) ?hi_5 (by kernel_rfl) ?hf_5 (by kernel_rfl) ?hQ_5 ?hy_5 (by assumption) ?_
    case hi_5 => simp only [List.getElem?_toArray, List.getElem?_cons_zero, List.getElem?_cons_succ]; rfl
    case hf_5 => kernel_rfl
    case hQ_5 => exact fun _ _ _ h => h
    case hy_5 =>
      refine Or.inl ⟨by rfl, ?_⟩
      intro W hSw
      obtain ⟨q0, q1⟩ := hSw
      go_simp
      try with_reducible rfl
    try simp only [Act.put, List.setIfInBounds_toArray, List.set_cons_zero, List.set_cons_succ]
    refine wpAnyH_take (i := 5) (oi := ?oi_6) (v := ?_) ?hi_6 (by kernel_rfl) ?hf_6 (by kernel_rfl) ?hQ_6 ?hy_6 (by assumption) ?_
    case hi_6 => simp only [List.getElem?_toArray, List.getElem?_cons_zero, List.getElem?_cons_succ]; rfl
    case hf_6 => kernel_rfl
    case hQ_6 => exact fun _ _ _ h => h
    case hy_6 =>
      refine Or.inl ⟨by rfl, ?_⟩
      intro W hSw
      obtain ⟨q0, q1⟩ := hSw
      go_simp
      try with_reducible rfl
    try simp only [Act.put, List.setIfInBounds_toArray, List.set_cons_zero, List.set_cons_succ]
    refine wpAnyH_take (i := 6) (oi := ?oi_7) (v := ?_) ?hi_7 (by kernel_rfl) ?hf_7 (by kernel_rfl) ?hQ_7 ?hy_7 (by assumption) ?_
    case hi_7 => simp only [List.getElem?_toArray, List.getElem?_cons_zero, List.getElem?_cons_succ]; rfl
    case hf_7 => kernel_rfl
    case hQ_7 => exact fun _ _ _ h => h
    case hy_7 =>
      refine Or.inl ⟨by rfl, ?_⟩
      intro W hSw
      obtain ⟨q0, q1⟩ := hSw
      go_simp
      try with_reducible rfl
    try simp only [Act.put, List.setIfInBounds_toArray, List.set_cons_zero, List.set_cons_succ]
    refine wpAnyH_take (i := 7) (oi := ?oi_8) (v := ?_) ?hi_8 (by kernel_rfl) ?hf_8 (by kernel_rfl) ?hQ_8 ?hy_8 (by assumption) ?_
    case hi_8 => simp only [List.getElem?_toArray, List.getElem?_cons_zero, List.getElem?_cons_succ]; rfl
    case hf_8 => kernel_rfl
    case hQ_8 => exact fun _ _ _ h => h
    case hy_8 =>
      refine Or.inl ⟨by rfl, ?_⟩
      intro W hSw
      obtain ⟨q0, q1⟩ := hSw
      go_simp
      try with_reducible rfl
    try simp only [Act.put, List.setIfInBounds_toArray, List.set_cons_zero, List.set_cons_succ]
    refine wpAnyH_take (i := 8) (oi := ?oi_9) (v := ?_) ?hi_9 (by kernel_rfl) ?hf_9 (by kernel_rfl) ?hQ_9 ?hy_9 (by assumption) ?_
    case hi_9 => simp only [List.getElem?_toArray, List.getElem?_cons_zero, List.getElem?_cons_succ]; rfl
    case hf_9 => kernel_rfl
    case hQ_9 => exact fun _ _ _ h => h
    case hy_9 =>
      refine Or.inl ⟨by rfl, ?_⟩
      intro W hSw
      obtain ⟨q0, q1⟩ := hSw
      go_simp
      try with_reducible rfl
    try simp only [Act.put, List.setIfInBounds_toArray, List.set_cons_zero, List.set_cons_succ]
    refine wpAnyH_take (i := 9) (oi := ?oi_10) (v := ?_) ?hi_10 (by kernel_rfl) ?hf_10 (by kernel_rfl) ?hQ_10 ?hy_10 (by assumption) ?_
    case hi_10 => simp only [List.getElem?_toArray, List.getElem?_cons_zero, List.getElem?_cons_succ]; rfl
    case hf_10 => kernel_rfl
    case hQ_10 => exact fun _ _ _ h => h
    case hy_10 =>
      refine Or.inl ⟨by rfl, ?_⟩
      intro W hSw
      obtain ⟨q0, q1⟩ := hSw
      go_simp
      try with_reducible rfl
    try simp only [Act.put, List.setIfInBounds_toArray, List.set_cons_zero, List.set_cons_succ]
    refine wpAnyH_take (i := 10) (oi := ?oi_11) (v := ?_) ?hi_11 (by kernel_rfl) ?hf_11 (by kernel_rfl) ?hQ_11 ?hy_11 (by assumption) ?_
    case hi_11 => simp only [List.getElem?_toArray, List.getElem?_cons_zero, List.getElem?_cons_succ]; rfl
    case hf_11 => kernel_rfl
    case hQ_11 => exact fun _ _ _ h => h
    case hy_11 =>
      refine Or.inl ⟨by rfl, ?_⟩
      intro W hSw
      obtain ⟨q0, q1⟩ := hSw
      go_simp
      try with_reducible rfl
    try simp only [Act.put, List.setIfInBounds_toArray, List.set_cons_zero, List.set_cons_succ]
    refine wpAnyH_ready (rs := [11]) (by kernel_rfl) (by simp) ?_
    refine AllReadyH.cons (o := ?oi_12) ?hi_12 (fun K hK => ?_) AllReadyH.nil
    case hi_12 => simp only [List.getElem?_toArray, List.getElem?_cons_zero, List.getElem?_cons_succ]; rfl
    go_simp
    (go_at_call 42
     refine HCp.out.mono ?_
     rintro e w3 ⟨rfl, h3, f3⟩
     have HA3 := Lib.hid h3
     have HF3 : Hid (Fr (· = bb) Y w3) := Lib.hid f3.undrew
     have HL3 := Lib.hid (HLY.out.fr f3.undrew (fun k hk e => HD.out bb (.inr (.inl rfl)) (by subst e; rcases HM.out.ft k hk with q | q; exact q; exact absurd HBL.out (by omega))))
     have hK2 : w3.cell? ⟨A.p, 0, none⟩ = some (.pointer (some ⟨A.a, 0, none⟩)) ∧ w3.cell? ⟨A.fb, j * 6, none⟩ = some (.int .i64 (d.room j)) := ⟨HL3.out.blk.cell 0, by rw [← HRM.out]; exact HL3.out.fcell (by show j < d1.n; rw [HM.out.n]; exact hj) 0 rfl⟩
     clear h3 f3)
    refine hK.out _ _ hK2 (fun hHeld => ?_)
    clear hK K
    try simp only [Act.put, List.setIfInBounds_toArray, List.set_cons_zero, List.set_cons_succ]
    refine wpAnyH_take (i := 12) (oi := ?oi_13) (v := ?_) ?hi_13 (by kernel_rfl) ?hf_13 (by kernel_rfl) ?hQ_13 ?hy_13 (by assumption) ?_
    case hi_13 => simp only [List.getElem?_toArray, List.getElem?_cons_zero, List.getElem?_cons_succ]; rfl
    case hf_13 => kernel_rfl
    case hQ_13 => exact fun _ _ _ h => h
    case hy_13 =>
      refine Or.inl ⟨by rfl, ?_⟩
      intro W hSw
      obtain ⟨q0, q1⟩ := hSw
      go_simp
      try with_reducible rfl
    try simp only [Act.put, List.setIfInBounds_toArray, List.set_cons_zero, List.set_cons_succ]
    refine wpAnyH_done (by kernel_rfl) ?_ _
    clear hHeld hK2 c0 f0
    go_wp2
    go_ret
    exact ⟨_, _, j, rfl, HM.out.put hj HT.out HPG.out (by rw [HBy.out.1]; exact hn0) (by rw [HBy.out.1]; exact hon) HBy.out.2.1 HL3.out HA3.out ((HFY.out.more (fun k hk => .inl (.inr (.inl hk)))).trans (HF3.out.more (fun k hk => .inr hk))), hj, HT.out, HPG.out, fun k hk q => HCHG.out k (by simpa [setB, hk] using q)⟩
  · have hr := HRI.out j hj
    have hR : d1.room j = d.room j := by rw [HM.out.room]
    have hFY : Fr (· = A.fb) w1 (w1.setCell ⟨A.fb, j * 6 + 5, none⟩ (.bool true)) := (Fr.refl (· = A.fb) w1).set_ (p := ⟨A.fb, j * 6 + 5, none⟩) rfl _
    have hLY : Lay (w1.setCell ⟨A.fb, j * 6 + 5, none⟩ (.bool true)) A { d1 with ch := setB d1.ch j true } := HM.out.lay.setch (by rw [HM.out.n]; exact hj) true
    obtain ⟨Y, eY⟩ : ∃ Y, Y = w1.setCell ⟨A.fb, j * 6 + 5, none⟩ (.bool true) := ⟨_, rfl⟩
    rw [← eY] at hFY hLY ⊢
    clear eY g5 zz
    have c0 : Y.drew.cell? ⟨A.p, 0, none⟩ = some (.pointer (some ⟨A.a, 0, none⟩)) := hLY.blk.cell 0
    have f0 : Y.drew.cell? ⟨A.fb, j * 6, none⟩ = some (.int .i64 (d.room j)) := by rw [← hR]; exact (hLY.drewN 1).fcell (by show j < d1.n; rw [HM.out.n]; exact hj) 0 rfl
    have hAY : Are Y A.a bb rm gm { ad with mem := m1 } := HM.out.are.fr hFY (fun k hk e => HD.out k hk (.inr (.inl e)))
    have hBY : Byt Y (some ⟨g, off, none⟩) n cp l := (HBy.out.fr HM.out.fr (by rintro (q | q); exact HG1.out q; exact HG2.out q)).fr hFY (fun e => HG1.out (.inr (.inl e)))
    have hCp := Copy_ok A.a bb rm gm { ad with mem := m1 } (d.room j + o) n cp (some ⟨g, off, none⟩) l Y.drew (hAY.drewN 1) (hBY.drewN 1) hn0 (by show d.room j + o + n ≤ ad.sz; omega)
    have hwr : (d.room j : Int) + (o : Int) = IntKind.i64.wrap ((d.room j : Int) + (o : Int)) := by rw [IntKind.wrap_i64]; omega
    rw [Int.natCast_add, hwr] at hCp
    clear hwr
    have HCp := Lib.hid hCp
    have HRM := Lib.hid hR
    have HLY := Lib.hid hLY
    have HFY := Lib.hid hFY
    have HFB := Lib.hid (show ¬ A.p = bb from fun e => HD.out bb (.inr (.inl rfl)) (.inl e.symm))
    clear hCp hR hLY hFY hAY hBY
    refine wp_region_held_drew (S := (fun W => W.cell? ⟨A.p, 0, none⟩ = some (.pointer (some ⟨A.a, 0, none⟩)) ∧ W.cell? ⟨A.fb, j * 6, none⟩ = some (.int .i64 (d.room j)))) (by kernel_rfl) ⟨c0, f0⟩ (fun hHeld => ?_)
    refine wpAnyH_take (i := 0) (oi := ?oi_14) (v := ?_) ?hi_14 (by kernel_rfl) ?hf_14 (by kernel_rfl) ?hQ_14 ?hy_14 (by assumption) ?_
    case hi_14 => simp only [List.getElem?_toArray, List.getElem?_cons_zero, List.getElem?_cons_succ]; rfl
    case hf_14 => kernel_rfl
    case hQ_14 => exact fun _ _ _ h => h
    case hy_14 =>
      refine Or.inl ⟨by rfl, ?_⟩
      intro W hSw
      obtain ⟨q0, q1⟩ := hSw
      go_simp
      try with_reducible rfl
    try simp only [Act.put, List.setIfInBounds_toArray, List.set_cons_zero, List.set_cons_succ]
    refine wpAnyH_take (i := 1) (oi := ?oi_15) (v := ?_) ?hi_15 (by kernel_rfl) ?hf_15 (by kernel_rfl) ?hQ_15 ?hy_15 (by assumption) ?_
    case hi_15 => simp only [List.getElem?_toArray, List.getElem?_cons_zero, List.getElem?_cons_succ]; rfl
    case hf_15 => kernel_rfl
    case hQ_15 => exact fun _ _ _ h => h
    case hy_15 =>
      refine Or.inl ⟨by rfl, ?_⟩
      intro W hSw
      obtain ⟨q0, q1⟩ := hSw
      go_simp
      try with_reducible rfl
    try simp only [Act.put, List.setIfInBounds_toArray, List.set_cons_zero, List.set_cons_succ]
    refine wpAnyH_take (i := 2) (oi := ?oi_16) (v := ?_) ?hi_16 (by kernel_rfl) ?hf_16 (by kernel_rfl) ?hQ_16 ?hy_16 (by assumption) ?_
    case hi_16 => simp only [List.getElem?_toArray, List.getElem?_cons_zero, List.getElem?_cons_succ]; rfl
    case hf_16 => kernel_rfl
    case hQ_16 => exact fun _ _ _ h => h
    case hy_16 =>
      refine Or.inl ⟨by rfl, ?_⟩
      intro W hSw
      obtain ⟨q0, q1⟩ := hSw
      go_simp
      try with_reducible rfl
    try simp only [Act.put, List.setIfInBounds_toArray, List.set_cons_zero, List.set_cons_succ]
    refine wpAnyH_take (i := 3) (oi := ?oi_17) (v := ?_) ?hi_17 (by kernel_rfl) ?hf_17 (by kernel_rfl) ?hQ_17 ?hy_17 (by assumption) ?_
    case hi_17 => simp only [List.getElem?_toArray, List.getElem?_cons_zero, List.getElem?_cons_succ]; rfl
    case hf_17 => kernel_rfl
    case hQ_17 => exact fun _ _ _ h => h
    case hy_17 =>
      refine Or.inl ⟨by rfl, ?_⟩
      intro W hSw
      obtain ⟨q0, q1⟩ := hSw
      go_simp
      try with_reducible rfl
    try simp only [Act.put, List.setIfInBounds_toArray, List.set_cons_zero, List.set_cons_succ]
    refine wpAnyH_take (i := 4) (oi := ?oi_18) (v := ?_) ?hi_18 (by kernel_rfl) ?hf_18 (by kernel_rfl) ?hQ_18 ?hy_18 (by assumption) ?_
    case hi_18 => simp only [List.getElem?_toArray, List.getElem?_cons_zero, List.getElem?_cons_succ]; rfl
    case hf_18 => kernel_rfl
    case hQ_18 => exact fun _ _ _ h => h
    case hy_18 =>
      refine Or.inl ⟨by rfl, ?_⟩
      intro W hSw
      obtain ⟨q0, q1⟩ := hSw
      go_simp
      try with_reducible rfl
    try simp only [Act.put, List.setIfInBounds_toArray, List.set_cons_zero, List.set_cons_succ]
    refine wpAnyH_take (i := 5) (oi := ?oi_19) (v := ?_) ?hi_19 (by kernel_rfl) ?hf_19 (by kernel_rfl) ?hQ_19 ?hy_19 (by assumption) ?_
    case hi_19 => simp only [List.getElem?_toArray, List.getElem?_cons_zero, List.getElem?_cons_succ]; rfl
    case hf_19 => kernel_rfl
    case hQ_19 => exact fun _ _ _ h => h
    case hy_19 =>
      refine Or.inl ⟨by rfl, ?_⟩
      intro W hSw
      obtain ⟨q0, q1⟩ := hSw
      go_simp
      try with_reducible rfl
    try simp only [Act.put, List.setIfInBounds_toArray, List.set_cons_zero, List.set_cons_succ]
    refine wpAnyH_take (i := 6) (oi := ?oi_20) (v := ?_) ?hi_20 (by kernel_rfl) ?hf_20 (by kernel_rfl) ?hQ_20 ?hy_20 (by assumption) ?_
    case hi_20 => simp only [List.getElem?_toArray, List.getElem?_cons_zero, List.getElem?_cons_succ]; rfl
    case hf_20 => kernel_rfl
    case hQ_20 => exact fun _ _ _ h => h
    case hy_20 =>
      refine Or.inl ⟨by rfl, ?_⟩
      intro W hSw
      obtain ⟨q0, q1⟩ := hSw
      go_simp
      try with_reducible rfl
    try simp only [Act.put, List.setIfInBounds_toArray, List.set_cons_zero, List.set_cons_succ]
    refine wpAnyH_take (i := 7) (oi := ?oi_21) (v := ?_) ?hi_21 (by kernel_rfl) ?hf_21 (by kernel_rfl) ?hQ_21 ?hy_21 (by assumption) ?_
    case hi_21 => simp only [List.getElem?_toArray, List.getElem?_cons_zero, List.getElem?_cons_succ]; rfl
    case hf_21 => kernel_rfl
    case hQ_21 => exact fun _ _ _ h => h
    case hy_21 =>
      refine Or.inl ⟨by rfl, ?_⟩
      intro W hSw
      obtain ⟨q0, q1⟩ := hSw
      go_simp
      try with_reducible rfl
    try simp only [Act.put, List.setIfInBounds_toArray, List.set_cons_zero, List.set_cons_succ]
    refine wpAnyH_take (i := 8) (oi := ?oi_22) (v := ?_) ?hi_22 (by kernel_rfl) ?hf_22 (by kernel_rfl) ?hQ_22 ?hy_22 (by assumption) ?_
    case hi_22 => simp only [List.getElem?_toArray, List.getElem?_cons_zero, List.getElem?_cons_succ]; rfl
    case hf_22 => kernel_rfl
    case hQ_22 => exact fun _ _ _ h => h
    case hy_22 =>
      refine Or.inl ⟨by rfl, ?_⟩
      intro W hSw
      obtain ⟨q0, q1⟩ := hSw
      go_simp
      try with_reducible rfl
    try simp only [Act.put, List.setIfInBounds_toArray, List.set_cons_zero, List.set_cons_succ]
    refine wpAnyH_take (i := 9) (oi := ?oi_23) (v := ?_) ?hi_23 (by kernel_rfl) ?hf_23 (by kernel_rfl) ?hQ_23 ?hy_23 (by assumption) ?_
    case hi_23 => simp only [List.getElem?_toArray, List.getElem?_cons_zero, List.getElem?_cons_succ]; rfl
    case hf_23 => kernel_rfl
    case hQ_23 => exact fun _ _ _ h => h
    case hy_23 =>
      refine Or.inl ⟨by rfl, ?_⟩
      intro W hSw
      obtain ⟨q0, q1⟩ := hSw
      go_simp
      try with_reducible rfl
    try simp only [Act.put, List.setIfInBounds_toArray, List.set_cons_zero, List.set_cons_succ]
    refine wpAnyH_take (i := 10) (oi := ?oi_24) (v := ?_) ?hi_24 (by kernel_rfl) ?hf_24 (by kernel_rfl) ?hQ_24 ?hy_24 (by assumption) ?_
    case hi_24 => simp only [List.getElem?_toArray, List.getElem?_cons_zero, List.getElem?_cons_succ]; rfl
    case hf_24 => kernel_rfl
    case hQ_24 => exact fun _ _ _ h => h
    case hy_24 =>
      refine Or.inl ⟨by rfl, ?_⟩
      intro W hSw
      obtain ⟨q0, q1⟩ := hSw
      go_simp
      try with_reducible rfl
    try simp only [Act.put, List.setIfInBounds_toArray, List.set_cons_zero, List.set_cons_succ]
    refine wpAnyH_ready (rs := [11]) (by kernel_rfl) (by simp) ?_
    refine AllReadyH.cons (o := ?oi_25) ?hi_25 (fun K hK => ?_) AllReadyH.nil
    case hi_25 => simp only [List.getElem?_toArray, List.getElem?_cons_zero, List.getElem?_cons_succ]; rfl
    go_simp
    (go_at_call 42
     refine HCp.out.mono ?_
     rintro e w3 ⟨rfl, h3, f3⟩
     have HA3 := Lib.hid h3
     have HF3 : Hid (Fr (· = bb) Y w3) := Lib.hid f3.undrew
     have HL3 := Lib.hid (HLY.out.fr f3.undrew (fun k hk e => HD.out bb (.inr (.inl rfl)) (by subst e; rcases HM.out.ft k hk with q | q; exact q; exact absurd HBL.out (by omega))))
     have hK2 : w3.cell? ⟨A.p, 0, none⟩ = some (.pointer (some ⟨A.a, 0, none⟩)) ∧ w3.cell? ⟨A.fb, j * 6, none⟩ = some (.int .i64 (d.room j)) := ⟨HL3.out.blk.cell 0, by rw [← HRM.out]; exact HL3.out.fcell (by show j < d1.n; rw [HM.out.n]; exact hj) 0 rfl⟩
     clear h3 f3)
    refine hK.out _ _ hK2 (fun hHeld => ?_)
    clear hK K
    try simp only [Act.put, List.setIfInBounds_toArray, List.set_cons_zero, List.set_cons_succ]
    refine wpAnyH_take (i := 12) (oi := ?oi_26) (v := ?_) ?hi_26 (by kernel_rfl) ?hf_26 (by kernel_rfl) ?hQ_26 ?hy_26 (by assumption) ?_
    case hi_26 => simp only [List.getElem?_toArray, List.getElem?_cons_zero, List.getElem?_cons_succ]; rfl
    case hf_26 => kernel_rfl
    case hQ_26 => exact fun _ _ _ h => h
    case hy_26 =>
      refine Or.inl ⟨by rfl, ?_⟩
      intro W hSw
      obtain ⟨q0, q1⟩ := hSw
      go_simp
      try with_reducible rfl
    try simp only [Act.put, List.setIfInBounds_toArray, List.set_cons_zero, List.set_cons_succ]
    refine wpAnyH_done (by kernel_rfl) ?_ _
    clear hHeld hK2 c0 f0
    go_wp2
    go_ret
    exact ⟨_, _, j, rfl, HM.out.put hj HT.out HPG.out (by rw [HBy.out.1]; exact hn0) (by rw [HBy.out.1]; exact hon) HBy.out.2.1 HL3.out HA3.out ((HFY.out.more (fun k hk => .inl (.inr (.inl hk)))).trans (HF3.out.more (fun k hk => .inr hk))), hj, HT.out, HPG.out, fun k hk q => HCHG.out k (by simpa [setB, hk] using q)⟩
end Go.Proofs.Ytlnffcledpccjaa
/-
  pager.Pager.Flush, Resident.
-/
namespace Go.Proofs.Ytlnffcledpccjaa
open Go.RowKit
set_option linter.unusedVariables false
set_option linter.unusedSimpArgs false
/-- all frames are written -/
structure Fls (A : Pa) (d d' : Pd) (mem : List Nat) (C : Nat × Nat → List Nat) (W : List (Nat × Nat)) (k : Nat) (w w' : World) : Prop where
  mv : Mv A d d' mem C W (2 * k) w w'
  pg : d'.pg = d.pg
  tk : d'.tk = d.tk
  st : d'.st = d.st
  sv : ∀ i, i < k → d.tk i = true → (d'.blk (d.pg i) ≠ none ↔ C (d.pg i) ≠ zs d.sd.size)
theorem Fls.step {A : Pa} {d d1 d2 : Pd} {mem : List Nat} {C : Nat × Nat → List Nat} {W : List (Nat × Nat)} {k : Nat} {w w1 w2 : World} (h : Fls A d d1 mem C W k w w1) (s : Svd A d1 d2 mem C W k w1 w2) (hk : k < d.n) (hk' : d1.tk k = true) : Fls A d d2 mem C W (k + 1) w w2 := by
  have hm := h.mv.trans s.mv
  refine ⟨⟨hm.lay, hm.pi, hm.n, hm.room, hm.size, hm.cap, by have := hm.ops; omega, hm.fr, hm.ft, hm.chg⟩, s.pg.trans h.pg, s.tk.trans h.tk, s.st.trans h.st, fun i hi ht => ?_⟩
  have htk : d1.tk i = true := by rw [h.tk]; exact ht
  have hpg : d1.pg i = d.pg i := by rw [h.pg]
  by_cases e : i = k
  · subst e
    have hs := s.saved htk
    rw [hpg, h.mv.size] at hs
    constructor
    · intro hb hz
      exact hb (hs.1 hz)
    · intro hz hb
      obtain ⟨id, hid, _⟩ := hs.2 hz
      rw [hid] at hb
      cases hb
  · have hne : d.pg i ≠ d1.pg k := fun q => e <| by
      have h1 := h.mv.pi.stand (by rw [h.mv.n]; omega : i < d1.n) htk
      have h2 := h.mv.pi.stand (by rw [h.mv.n]; omega : k < d1.n) hk'
      rw [hpg, q, h2] at h1
      exact (Option.some.inj h1).symm
    rw [s.others _ hne]
    exact h.sv i (by omega) ht
theorem Fls.idle {A : Pa} {d d1 : Pd} {mem : List Nat} {C : Nat × Nat → List Nat} {W : List (Nat × Nat)} {k : Nat} {w w1 : World} (h : Fls A d d1 mem C W k w w1) (hk' : d1.tk k = false) : Fls A d d1 mem C W (k + 1) w w1 := by
  have hm := h.mv
  refine ⟨⟨hm.lay, hm.pi, hm.n, hm.room, hm.size, hm.cap, by have := hm.ops; omega, hm.fr, hm.ft, hm.chg⟩, h.pg, h.tk, h.st, fun i hi ht => ?_⟩
  by_cases e : i = k
  · subst e
    rw [h.tk, ht] at hk'
    cases hk'
  · exact h.sv i (by omega) ht
/-- once all is written: a page has a block where not all of its bytes are 0, and nowhere else -/
theorem Fls.whole {A : Pa} {d d1 : Pd} {mem : List Nat} {C : Nat × Nat → List Nat} {W : List (Nat × Nat)} {w w1 : World} (h : Fls A d d1 mem C W d.n w w1) (x : Nat × Nat) : d1.blk x ≠ none ↔ C x ≠ zs d.sd.size := by
  cases hs : d1.st x with
  | some i =>
    obtain ⟨h1, h2, h3⟩ := (h.mv.pi.st x i).1 hs
    rw [h.tk] at h2
    rw [h.pg] at h3
    rw [← h3]
    exact h.sv i (by rw [← h.mv.n]; exact h1) h2
  | none =>
    cases hb : d1.blk x with
    | some id =>
      have := (h.mv.pi.cb x id (fun q => q) hs hb).2
      rw [h.mv.size] at this
      exact ⟨fun _ => this, fun _ q => by cases q⟩
    | none =>
      have := h.mv.pi.cz x (fun q => q) hs hb
      rw [h.mv.size] at this
      exact ⟨fun q => absurd rfl q, fun q => absurd this q⟩
set_option maxHeartbeats 1000000 in
set_option maxRecDepth 100000 in
theorem save_idle {w : World} {A : Pa} {d : Pd} (h : Lay w A d) (i : Nat) (hi : i < d.n) (ht : d.tk i = false) :
    Calls Try.prog 47 #[.pointer (some ⟨A.p, 0, none⟩), .int .i64 i] w fun e w' => e = .returned (.int .i64 0) ∧ w = w' := by
  have c2 : w.cell? ⟨A.p, 2, none⟩ = some (.slice (some ⟨A.fb, 0, none⟩) d.n A.cap) := h.blk.cell 2
  have f3 : w.cell? ⟨A.fb, i * 6 + 3, none⟩ = some (.bool false) := by rw [← ht]; exact h.fcell hi 3 rfl
  have hn2 := h.n2
  clear h ht
  go_enter Try.func47, Try.ntmps47
  go_wp2
  go_ret
  exact ⟨rfl, rfl⟩
def FlPost (A : Pa) (d : Pd) (mem : List Nat) (C : Nat × Nat → List Nat) (W : List (Nat × Nat)) (w : World) (e : Ending) (w' : World) : Prop :=
  e = .returned (.int .i64 0) ∧ ∃ d', Fls A d d' mem C W d.n w w'
set_option maxHeartbeats 2000000 in
set_option maxRecDepth 100000 in
theorem Flush_ok {w : World} {A : Pa} {d : Pd} {C : Nat × Nat → List Nat} {W : List (Nat × Nat)} {bb rm gm : Nat} {ad : Ad} (h : Lay w A d) (ha : Are w A.a bb rm gm ad) (hdis : ∀ k, ad.mine A.a bb rm gm k → ¬ foot A d k) (hp : PI d ad.mem C W (fun _ => False)) (ho : d.sd.ops < 800000) (hW : W.length ≤ d.sd.cap) :
    Calls Try.prog 18 #[.pointer (some ⟨A.p, 0, none⟩)] w (FlPost A d ad.mem C W w) := by
  have HW_ := Lib.hid (works_ok h)
  have c2 : w.cell? ⟨A.p, 2, none⟩ = some (.slice (some ⟨A.fb, 0, none⟩) d.n A.cap) := h.blk.cell 2
  have hn1 := h.n1
  have hn2 := h.n2
  have HF0 : Hid (Fls A d d ad.mem C W 0 w w) := Lib.hid ⟨Mv.still h hp (Fr.refl _ _), rfl, rfl, rfl, fun i hi => absurd hi (Nat.not_lt_zero _)⟩
  have HA := Lib.hid ha
  have HD := Lib.hid hdis
  clear h ha hdis hp
  go_enter Try.func18, Try.ntmps18
  go_wp2_with (go_at_call 43; refine HW_.out.mono ?_; rintro e w1 ⟨rfl, rfl⟩)
  clear c2
  go_loopw [16] (fun v16 wr => ∃ (k : Nat) (d1 : Pd), k ≤ d.n ∧ v16 = .int .i64 k ∧ Hid (Fls A d d1 ad.mem C W k w wr)) (fun v16 _ => d.n - (intOf v16).toNat)
  case atStart => exact ⟨0, d, Nat.zero_le _, rfl, HF0⟩
  case round =>
    obtain ⟨k, d1, hk, rfl, HF⟩ := hrel
    by_cases hlt : k < d.n
    · have hk1 : k < d1.n := by rw [HF.out.mv.n]; exact hlt
      cases ht : d1.tk k with
      | true =>
        have hs := save_yes HF.out.mv.lay (HA.out.fr HF.out.mv.fr (fun q hq => HD.out q hq)) HF.out.mv.pi k hk1 ht (by have := HF.out.mv.ops; omega) (by rw [HF.out.mv.cap]; exact hW)
        unfold SvPost at hs
        have HS := Lib.hid hs
        have HT := Lib.hid ht
        clear hs ht
        go_wp2_with (go_at_call 47
                     refine HS.out.mono ?_
                     rintro e w2 ⟨rfl, d2, hs2⟩
                     have HF2 := Lib.hid (HF.out.step hs2 hlt HT.out)
                     clear hs2)
        go_roundw
        case rel => exact ⟨k + 1, d2, by omega, by go_num, HF2⟩
        case measure => simp [intOf]; omega
      | false =>
        have HS := Lib.hid (save_idle HF.out.mv.lay k hk1 ht)
        have HF2 := Lib.hid (HF.out.idle ht)
        clear ht
        go_wp2_with (go_at_call 47; refine HS.out.mono ?_; rintro e w2 ⟨rfl, rfl⟩)
        go_roundw
        case rel => exact ⟨k + 1, d1, by omega, by go_num, HF2⟩
        case measure => simp [intOf]; omega
    · obtain rfl : k = d.n := by omega
      go_wp2
      go_ret
      exact ⟨rfl, d1, HF.out⟩
end Go.Proofs.Ytlnffcledpccjaa
/-
  pager.Pager.Resident; take, where that many rooms can be cut off.
-/
namespace Go.Proofs.Ytlnffcledpccjaa
open Go.ChangeShapes Go.WideShapes Go.ChangeAt Go.RowKit
set_option linter.unusedVariables false
set_option linter.unusedSimpArgs false
set_option maxHeartbeats 2000000 in
set_option maxRecDepth 100000 in
theorem Resident_ok {w : World} {A : Pa} {d : Pd} {q : Nat} (h : Lay w A d) (hq : PM w A.sm q d.st) : Calls Try.prog 20 #[.pointer (some ⟨A.p, 0, none⟩)] w fun e w' => e = .returned (.int .i64 q) ∧ w = w' := by
  have c3 : w.cell? ⟨A.p, 3, none⟩ = some (.map (some A.sm)) := h.blk.cell 3
  have hl : ∀ ty, (Builtin.len_ #[99] ty #[.map (some A.sm)]).run Try.prog w = .ok (.int .i64 q) w := fun ty => hq.len Try.underlying99 ty
  clear h hq
  go_enter Try.func20, Try.ntmps20
  go_wp2
  go_ret
  exact ⟨rfl, rfl⟩
theorem own_slice {base : Nat} {w : World} {v : Value} {n : Nat} {xs : List Value} (h : w.ownsRow base 3 1 v n xs) : ∃ A cp, v = .slice A n cp := by
  rcases h.2 with ⟨e, h0⟩ | ⟨g, cap, cur, e, _⟩
  · subst h0; exact ⟨_, _, e⟩
  · exact ⟨_, _, e⟩
def TR (h c k : Nat) : List Value := (List.range k).map fun i => I64 (h + i * c)
theorem TR_succ (h c k : Nat) : TR h c (k + 1) = TR h c k ++ [Value.int .i64 ((h + k * c : Nat) : Int)] := by simp [TR, List.range_succ, I64]
/-- k rooms of class c were cut off, one after another -/
structure TkI (a bb rm gm : Nat) (d d' : Ad) (c j : Nat) (w w' : World) : Prop where
  are : Are w' a bb rm gm d'
  sz : d'.sz = d.sz
  height : d'.height = d.height + j * c
  gn : ∀ q, d'.G q = []
  live : d'.live = d'.height
  ops : d'.ops = d.ops + j
  fr : Fr (arb a bb rm gm) w w'
theorem TkI.next {a bb rm gm : Nat} {d d' : Ad} {c j : Nat} {n : Int} {w w1 w2 : World} (h : TkI a bb rm gm d d' c j w w1) (hc : cl n = c) (ha : Are w2 a bb rm gm ((d'.cut (cl n)).take d'.height (cl n))) (hf : Fr (arb a bb rm gm) w1 w2) : TkI a bb rm gm d ((d'.cut (cl n)).take d'.height (cl n)) c (j + 1) w w2 := by
  subst hc
  refine ⟨ha, h.sz, ?_, h.gn, ?_, ?_, h.fr.trans hf⟩
  · show d'.height + cl n = _
    rw [h.height, Nat.succ_mul]; omega
  · show d'.live + (cl n : Int) = ((d'.height + cl n : Nat) : Int)
    rw [h.live]; push_cast; rfl
  · show d'.ops + 1 = _
    rw [h.ops]; omega
theorem TkI.more {a bb rm gm : Nat} {d d' : Ad} {c j : Nat} {w w1 w2 : World} {S : Nat → Prop} (h : TkI a bb rm gm d d' c j w w1) (hf : Fr S w1 w2) (hS : ∀ q, S q → ¬ arb a bb rm gm q ∧ w.heap.size ≤ q) : TkI a bb rm gm d d' c j w w2 := by
  refine ⟨h.are.fr hf (fun q hq hs => ?_), h.sz, h.height, h.gn, h.live, h.ops, h.fr.trans_new (hf) (fun q hq => .inr (hS q hq).2)⟩
  rcases hq with q1 | q1 | q1 | q1 | ⟨c', hc', _⟩
  · exact (hS q hs).1 (.inl q1)
  · exact (hS q hs).1 (.inr (.inl q1))
  · exact (hS q hs).1 (.inr (.inr (.inl q1)))
  · exact (hS q hs).1 (.inr (.inr (.inr q1)))
  · exact hc' (h.gn c')
theorem quo_ge {x c k : Nat} (hc : 1 ≤ c) (h : k * c ≤ x) : (k : Int) ≤ (x : Int) / (c : Int) := by
  have : k ≤ x / c := (Nat.le_div_iff_mul_le (by omega)).2 h
  omega
def TkPost (a bb rm gm : Nat) (d : Ad) (c k : Nat) (w : World) (e : Ending) (w' : World) : Prop :=
  ∃ (A : Option Addr) (cp : Nat) (d' : Ad), e = .returned (.tuple #[.slice A k cp, .int .i64 0]) ∧ w'.ownsRow w.heap.size 3 1 (.slice A k cp) k (TR d.height c k) ∧ TkI a bb rm gm d d' c k w w'
def slLen : Value → Nat
  | .slice _ n _ => n
  | _ => 0
set_option maxHeartbeats 2000000 in
set_option maxRecDepth 100000 in
theorem take_ok {w : World} {a bb rm gm : Nat} {d : Ad} (h : Are w a bb rm gm d) (sz c k : Nat) (hsz : sz ≤ 4194304) (hc : cl (sz : Int) = c) (hk1 : 1 ≤ k) (hk2 : k ≤ 64) (hG : ∀ q, d.G q = []) (hl : d.live = d.height) (hfit : d.height + k * c ≤ d.sz) (ho : d.ops < 900000) : Calls Try.prog 38 #[.pointer (some ⟨a, 0, none⟩), .int .i64 sz, .int .i64 k] w (TkPost a bb rm gm d c k w) := by
  obtain ⟨i0, hii, hz0, hz1, hz2⟩ := info_parts info3
  have HC := Lib.hid (Class_any (sz : Int) w (by omega))
  rw [hc] at HC
  have HH := Lib.hid (Height_any h)
  have HS := Lib.hid (ASize_any h)
  have HL := Lib.hid (Live_any h)
  rw [hl] at HL
  have hc1 : 16 ≤ c := by rw [← hc]; exact cl_lo _
  have hc2 : c ≤ 4194304 := by rw [← hc]; exact cl_hi _
  have hlim := h.lim
  have hhs := h.hsz
  have hq := quo_ge (x := d.sz - d.height) (k := k) (by omega : 1 ≤ c) (by omega)
  rw [Int.natCast_sub hhs] at hq
  have hq2 : ((d.sz : Int) - (d.height : Int)) / (c : Int) ≤ 4194304 := by
    have := Int.ediv_le_self (b := (c : Int)) (show (0 : Int) ≤ (d.sz : Int) - (d.height : Int) by omega)
    omega
  have hqe : ((d.sz : Int) - (d.height : Int)).tdiv (c : Int) = ((d.sz : Int) - (d.height : Int)) / (c : Int) := Int.tdiv_eq_ediv_of_nonneg (by omega)
  obtain ⟨q, eq⟩ : ∃ q, q = ((d.sz : Int) - (d.height : Int)) / (c : Int) := ⟨_, rfl⟩
  rw [← eq] at hq hq2 hqe
  clear eq
  have h0 : ((0 : Int)).tdiv (c : Int) = 0 := Int.zero_tdiv _
  have H := Lib.hid h
  have HK := Lib.hid hc
  have HG := Lib.hid hG
  have HLv := Lib.hid hl
  clear h hc hG hl
  go_enter Try.func38, Try.ntmps38
  go_wp2_with (first
    | (go_at_call 56; refine HC.out.mono ?_; rintro e w1 ⟨rfl, rfl⟩)
    | (go_at_call 57; refine HH.out.mono ?_; rintro e w1 ⟨rfl, rfl⟩)
    | (go_at_call 58; refine HS.out.mono ?_; rintro e w1 ⟨rfl, rfl⟩)
    | (go_at_call 59; refine HL.out.mono ?_; rintro e w1 ⟨rfl, rfl⟩))
  clear hq2 hqe h0
  go_loopw [12] (fun v12 wr => ∃ (j : Nat) (A : Option Addr) (cp : Nat) (d1 : Ad), j ≤ k ∧ v12 = .slice A j cp ∧ Hid (TkI a bb rm gm d d1 c j w wr) ∧ Hid (wr.ownsRow w.heap.size 3 1 (.slice A j cp) j (TR d.height c j))) (fun v12 _ => k - slLen v12)
  case atStart => exact ⟨0, none, 0, d, Nat.zero_le _, rfl, Lib.hid ⟨H.out, rfl, by omega, HG.out, HLv.out, rfl, Fr.refl _ _⟩, Lib.hid (World.ownsRow_nil w _ 3 1)⟩
  case round =>
    obtain ⟨j, A, cp, d1, hj, rfl, HT, HO⟩ := hrel
    by_cases hlt : j < k
    · have hmul : (j + 1) * c ≤ k * c := Nat.mul_le_mul_right c hlt
      rw [Nat.succ_mul] at hmul
      have hd1h : d1.height = d.height + j * c := HT.out.height
      have hd1o := HT.out.ops
      have hd1s := HT.out.sz
      have hTk := Take_cut a bb rm gm d1 (sz : Int) wr HT.out.are (by omega) (by omega) (HT.out.gn _) (by rw [HK.out, hd1h, hd1s]; omega) (by omega)
      unfold TcPost at hTk
      rw [hd1h] at hTk
      have HTk := Lib.hid hTk
      have HJ : Hid (d1.height = d.height + j * c) := Lib.hid hd1h
      obtain ⟨p, hp⟩ : ∃ p, p = d.height + j * c := ⟨_, rfl⟩
      have hp2 : p ≤ 4194304 := by omega
      rw [← hp] at HTk HJ
      have HPp := Lib.hid hp
      clear hTk hd1h hmul hp hfit
      go_wp2_with (first
        | (go_at_call 60
           refine HTk.out.mono ?_
           rintro e w3 ⟨rfl, h3, f3⟩
           have HT3 := Lib.hid (HT.out.next HK.out (by rw [HJ.out]; exact h3) f3)
           have HO3 : Hid (w3.ownsRow w.heap.size 3 1 (.slice A j cp) j (TR d.height c j)) := Lib.hid (own_fr HO.out f3 (fun g cur hg _ => HT.out.are.row_ne hg))
           have HB3 : Hid (w.heap.size ≤ w3.heap.size) := Lib.hid HT3.out.fr.size
           clear h3 f3)
        | (at_builtin
           refine wpList_append_own _ rfl (.tmp 56) (.tmp 58) 96 rfl w.heap.size 3 i0 (.int .i64 0) 1 8 Try.underlying96 hii hz0 hz1 hz2 rfl (by decide) (.slice A j cp) j (TR d.height c j) rfl (HO3.out.alloc _) ⟨w3.heap.size, 0, none⟩ 1 1 [.int .i64 ((p : Nat) : Int)] rfl rfl (Blk.src (Blk.new w3 3 _)) (by simp [Value.oneCell']) (by unfold maxLen; omega) (by omega) (by have := HB3.out; simp; omega) ?_
           intro v' w4 hown4 hgrow4 _
           obtain ⟨A4, cp4, rfl⟩ := own_slice hown4
           have f4 : Fr (fun q => (Value.slice A j cp).ownBlock = some q) w3 w4 := ((Fr.refl _ w3).alloc _).trans (Fr.grownV hgrow4)
           have hnot : ∀ q, (Value.slice A j cp).ownBlock = some q → ¬ arb a bb rm gm q ∧ w.heap.size ≤ q := fun q hq => by
             rcases HO3.out.2 with ⟨e, _⟩ | ⟨g, cp', cur, e, _, hg, _⟩
             · rw [e] at hq; cases hq
             · have hq2 := hq
               rw [e] at hq2
               injection hq2 with hq2
               subst hq2
               exact ⟨HT3.out.are.row_ne hg, (HO3.out.lt _ hq).1⟩
           have HT4 := Lib.hid (HT3.out.more f4 hnot)
           have HO4 : Hid (w4.ownsRow w.heap.size 3 1 (.slice A4 (j + 1) cp4) (j + 1) (TR d.height c (j + 1))) := Lib.hid (by rw [TR_succ, ← HPp.out]; exact hown4)
           have HH4 := Lib.hid (Height_any HT4.out.are)
           clear hown4 hgrow4 f4 hnot)
        | (go_at_call 57; refine HH4.out.mono ?_; rintro e w' ⟨rfl, rfl⟩))
      go_roundw
      case rel => exact ⟨j + 1, A4, cp4, _, by omega, rfl, HT4, HO4⟩
      case measure => simp [slLen]; omega
    · obtain rfl : j = k := by omega
      go_wp2
      go_ret2
      exact ⟨A, cp, d1, rfl, HO.out, HT.out⟩
end Go.Proofs.Ytlnffcledpccjaa
