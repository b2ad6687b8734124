/-
  OpFinds' walk.
-/
import Derived.Test.YtalpkdnnclghaaaDoorUe
import Derived.Test.YtalpkdnnclghaaaDoorOp
import Derived.Test.YtalpkdnnclghaaaDoorOr
import Derived.Deep.RegionHeld3
import Derived.Outline
namespace Go.Proofs.YtalpkdnnclghaaaDoor
open Go.RowKit Go.ChangeShapes Go.WideShapes Go.ChangeAt
set_option linter.unusedVariables false
set_option linter.unusedSimpArgs false
set_option maxHeartbeats 16000000 in
set_option maxRecDepth 100000 in
theorem finds_no (c c1 x f : Int) (s : ByteArray) (fb : Bool) (tl gl : List Nat) (w : World) (hT : Tb w) (h5 : 3 < w.heap.size) (hx0 : 0 ≤ x) (hs : s = ⟨#[]⟩) (hc1 : c1 = 0) (htl : tl = [])
    (hA : ∀ W, Tb W → Calls Tryd.prog 31 #[.int .i64 c] W (FFlat ⟨false, c1, s, f, tl, gl⟩ W))
    (hN : ∀ W, Calls Tryd.prog 32 #[.int .i64 c] W fun e w' => e = .returned (.string s) ∧ Below W.heap.size W w')
    (hWd : ∀ B W, 3 < B → Below B w W → Calls Tryd.prog 33 #[.int .i64 c] W fun e w' => e = .returned (.tuple #[.int .i64 x, .bool (x != 0)]) ∧ Below W.heap.size W w')
    (hRw : ∀ W, Calls Tryd.prog 34 #[.int .i64 c] W fun e w' => e = .returned (.int .i64 x) ∧ W = w')
    (hFo : ∀ B W, 3 < B → Below B w W → Calls Tryd.prog 35 #[.int .i64 c] W fun e w' => e = .returned (.bool fb) ∧ Below W.heap.size W w')
    (hRf : ∀ W, Calls Tryd.prog 36 #[.int .i64 c] W fun e w' => e = .returned (.bool fb) ∧ W = w')
    : Calls Tryd.prog 8 #[.int .i64 c] w fun e w' => e = .returned (.bool true) ∧ Below w.heap.size w w' := by
  subst hs hc1 htl
  have HA := Lib.hid hA
  have HN := Lib.hid hN
  have HWd := Lib.hid hWd
  have HRw := Lib.hid hRw
  have HFo := Lib.hid hFo
  have HRf := Lib.hid hRf
  have HW := Lib.hid awake_any
  have HT := Lib.hid hT
  have H5 := Lib.hid h5
  have hxz : (x != 0) = decide (0 < x) := by rw [Bool.eq_iff_iff]; simp; omega
  clear hA hN hWd hRw hFo hRf hT h5
  go_enter Tryd.func8, Tryd.ntmps8
  go_wp2_with (first
    | (go_at_call 31; (with_reducible refine (HA.out _ HT.out).mono ?_); rintro e wa ⟨Ata, cta, Aga, cga, rfl, hoa, hqa, hba⟩
       have HOA := Lib.hid hoa
       have HQA := Lib.hid hqa
       have HBa := Lib.hid hba
       clear hoa hqa hba)
    | (go_at_call 32; (with_reducible refine (HN.out _).mono ?_); rintro e wb ⟨rfl, hb⟩
       have HBb : Hid (Below w.heap.size w wb) := Lib.hid ((HBa.out.alloc HBa.out.size _).trans (hb.mono (HBa.out.alloc HBa.out.size _).size))
       have HXb : Hid (Blk wb wa.heap.size 57 #[.int .i64 0, .string ⟨#[]⟩, .int .i64 f, .slice Ata 0 cta, .slice Aga gl.length cga]) := Lib.hid ((Blk.new wa 57 _).below hb (by simp))
       clear hb)
    | (go_at_call 33; (with_reducible refine (HWd.out _ _ H5.out HBb.out).mono ?_); rintro e wc ⟨rfl, hb⟩
       have HBc : Hid (Below w.heap.size w wc) := Lib.hid (HBb.out.trans (hb.mono HBb.out.size))
       have HXc := Lib.hid (HXb.out.below hb HXb.out.lt)
       clear hb)
    | (go_at_call 34; (with_reducible refine (HRw.out _).mono ?_); rintro e wc2 ⟨rfl, rfl⟩)
    | (go_at_call 35; (with_reducible refine (HFo.out _ _ H5.out HBc.out).mono ?_); rintro e wd ⟨rfl, hb⟩
       have HBd : Hid (Below w.heap.size w wd) := Lib.hid (HBc.out.trans (hb.mono HBc.out.size))
       have HXd := Lib.hid (HXc.out.below hb HXc.out.lt)
       obtain ⟨x0, x1, x2, x3, x4⟩ := blk5 HXd.out
       clear hb)
    | (go_at_call 36; (with_reducible refine (HRf.out _).mono ?_); rintro e wd2 ⟨rfl, rfl⟩)
    | (go_at_call 37; (with_reducible refine (HW.out _ (HT.out.below HBd.out HT.out.size)).mono ?_); rintro e we ⟨rfl, hf⟩
       have HF : Hid (Below w.heap.size w we) := Lib.hid (HBd.out.trans (hf.mono HBd.out.size))
       clear hf))
  go_ret
  exact ⟨rfl, HF.out⟩
set_option maxHeartbeats 16000000 in
set_option maxRecDepth 100000 in
theorem finds_yes (c c1 x f : Int) (s : ByteArray) (tl gl : List Nat) (w : World) (hT : Tb w) (h5 : 3 < w.heap.size) (hx0 : 0 ≤ x) (hs : s ≠ ⟨#[]⟩) (hc1 : c1 = c) (hl1 : tl.length ≤ 3) (hl2 : gl.length ≤ 3) (hx1 : ∀ x ∈ tl, x < 256) (hx2 : ∀ x ∈ gl, x < 256)
    (hA : ∀ W, Tb W → Calls Tryd.prog 31 #[.int .i64 c] W (FFlat ⟨true, c1, s, f, tl, gl⟩ W))
    (hN : ∀ W, Calls Tryd.prog 32 #[.int .i64 c] W fun e w' => e = .returned (.string s) ∧ Below W.heap.size W w')
    (hWd : ∀ B W, 3 < B → Below B w W → Calls Tryd.prog 33 #[.int .i64 c] W fun e w' => e = .returned (.tuple #[.int .i64 x, .bool (x != 0)]) ∧ Below W.heap.size W w')
    (hRw : ∀ W, Calls Tryd.prog 34 #[.int .i64 c] W fun e w' => e = .returned (.int .i64 x) ∧ W = w')
    (hFo : ∀ B W, 3 < B → Below B w W → Calls Tryd.prog 35 #[.int .i64 c] W fun e w' => e = .returned (.bool false) ∧ Below W.heap.size W w')
    (hRf : ∀ W, Calls Tryd.prog 36 #[.int .i64 c] W fun e w' => e = .returned (.bool false) ∧ W = w')
    (hK : ∀ W, Calls Tryd.prog 38 #[.int .i64 c] W (TkP tl gl W))
    (hFm : ∀ W, Calls Tryd.prog 39 #[.int .i64 c] W fun e w' => e = .returned (.int .i64 f) ∧ W = w')
    : Calls Tryd.prog 8 #[.int .i64 c] w fun e w' => e = .returned (.bool true) ∧ Below w.heap.size w w' := by
  subst hc1
  obtain ⟨q1, q2, q3⟩ := emp_facts hs
  have HX1 := Lib.hid hx1
  have HX2 := Lib.hid hx2
  have HK := Lib.hid hK
  have HFm := Lib.hid hFm
  have hst : (s.toList == s.toList) = true := by simp
  clear hs hx1 hx2 hK hFm
  have HA := Lib.hid hA
  have HN := Lib.hid hN
  have HWd := Lib.hid hWd
  have HRw := Lib.hid hRw
  have HFo := Lib.hid hFo
  have HRf := Lib.hid hRf
  have HW := Lib.hid awake_any
  have HT := Lib.hid hT
  have H5 := Lib.hid h5
  have hxz : (x != 0) = decide (0 < x) := by rw [Bool.eq_iff_iff]; simp; omega
  clear hA hN hWd hRw hFo hRf hT h5
  go_enter Tryd.func8, Tryd.ntmps8
  go_wp2_with (first
    | (go_at_call 31; (with_reducible refine (HA.out _ HT.out).mono ?_); rintro e wa ⟨Ata, cta, Aga, cga, rfl, hoa, hqa, hba⟩
       have HOA := Lib.hid hoa
       have HQA := Lib.hid hqa
       have HBa := Lib.hid hba
       clear hoa hqa hba)
    | (go_at_call 32; (with_reducible refine (HN.out _).mono ?_); rintro e wb ⟨rfl, hb⟩
       have HBb : Hid (Below w.heap.size w wb) := Lib.hid ((HBa.out.alloc HBa.out.size _).trans (hb.mono (HBa.out.alloc HBa.out.size _).size))
       have HOb := Lib.hid (own_kept (HOA.out.alloc _) hb)
       have HQb := Lib.hid (own_kept (HQA.out.alloc _) hb)
       have HXb : Hid (Blk wb wa.heap.size 57 #[.int .i64 c1, .string s, .int .i64 f, .slice Ata tl.length cta, .slice Aga gl.length cga]) := Lib.hid ((Blk.new wa 57 _).below hb (by simp))
       clear hb)
    | (go_at_call 33; (with_reducible refine (HWd.out _ _ H5.out HBb.out).mono ?_); rintro e wc ⟨rfl, hb⟩
       have HBc : Hid (Below w.heap.size w wc) := Lib.hid (HBb.out.trans (hb.mono HBb.out.size))
       have HXc := Lib.hid (HXb.out.below hb HXb.out.lt)
       have HOc := Lib.hid (own_kept HOb.out hb)
       have HQc := Lib.hid (own_kept HQb.out hb)
       clear hb)
    | (go_at_call 34; (with_reducible refine (HRw.out _).mono ?_); rintro e wc2 ⟨rfl, rfl⟩)
    | (go_at_call 35; (with_reducible refine (HFo.out _ _ H5.out HBc.out).mono ?_); rintro e wd ⟨rfl, hb⟩
       have HBd : Hid (Below w.heap.size w wd) := Lib.hid (HBc.out.trans (hb.mono HBc.out.size))
       have HXd := Lib.hid (HXc.out.below hb HXc.out.lt)
       have HOD := Lib.hid (own_kept HOc.out hb)
       have HQD := Lib.hid (own_kept HQc.out hb)
       obtain ⟨x0, x1, x2, x3, x4⟩ := blk5 HXd.out
       clear hb)
    | (go_at_call 35; (with_reducible refine (HFo.out _ _ H5.out HBd.out).mono ?_); rintro e w9 ⟨rfl, hb⟩
       have HB9 : Hid (Below w.heap.size w w9) := Lib.hid (HBd.out.trans (hb.mono HBd.out.size))
       have HX9 := Lib.hid (HXd.out.below hb HXd.out.lt)
       have HO9 := Lib.hid (own_kept HOD.out hb)
       have HQ9 := Lib.hid (own_kept HQD.out hb)
       clear hb x0 x1 x2 x3 x4)
    | (go_at_call 36; (with_reducible refine (HRf.out _).mono ?_); rintro e wd2 ⟨rfl, rfl⟩)
    | (go_at_call 38; (with_reducible refine (HK.out _).mono ?_); rintro e wk ⟨vt, vg, rfl, hot, hog, hbk⟩
       obtain ⟨At9, ct9, rfl⟩ := own_slice hot
       obtain ⟨Ag9, cg9, rfl⟩ := own_slice hog
       have HBK : Hid (Below w.heap.size w wk) := Lib.hid (HB9.out.trans (hbk.mono HB9.out.size))
       have HXk := Lib.hid (HX9.out.below hbk HX9.out.lt)
       have HY2 := Lib.hid (Byt.own hot HX1.out)
       have HY4 := Lib.hid (Byt.own hog HX2.out)
       have HOAk : Hid (wk.ownsRow w.heap.size 51 1 (.slice Ata tl.length cta) tl.length (tl.map U8)) := Lib.hid (own_kept HO9.out hbk)
       have HQAk : Hid (wk.ownsRow w.heap.size 51 1 (.slice Aga gl.length cga) gl.length (gl.map U8)) := Lib.hid (own_kept HQ9.out hbk)
       clear hot hog hbk))
  have HY1 := Lib.hid (Byt.own HOAk.out HX1.out)
  have HY3 := Lib.hid (Byt.own HQAk.out HX2.out)
  have HS1 := Lib.hid (fun W (h : Below wk.heap.size wk W) => Same_any Ata At9 _ _ cta ct9 _ _ (by omega) (by omega) W (HY1.out.below h) (HY2.out.below h))
  have HS2 := Lib.hid (fun W (h : Below wk.heap.size wk W) => Same_any Aga Ag9 _ _ cga cg9 _ _ (by omega) (by omega) W (HY3.out.below h) (HY4.out.below h))
  simp only [show decide (tl = tl) = true by simp] at HS1
  simp only [show decide (gl = gl) = true by simp] at HS2
  have HB0 : Hid (Below wk.heap.size wk wk.drew) := Lib.hid (below_drewN (Below.refl _ _) 1)
  have HXC : Hid (∀ W, Below wk.heap.size wk W → W.cell? ⟨wa.heap.size, 0, none⟩ = some (.int .i64 c1) ∧ W.cell? ⟨wa.heap.size, 1, none⟩ = some (.string s) ∧ W.cell? ⟨wa.heap.size, 2, none⟩ = some (.int .i64 f) ∧ W.cell? ⟨wa.heap.size, 3, none⟩ = some (.slice Ata tl.length cta) ∧ W.cell? ⟨wa.heap.size, 4, none⟩ = some (.slice Aga gl.length cga)) := Lib.hid (fun W hb => blk5 (HXk.out.below hb HXk.out.lt))
  refine wp_region_held_drew (S := (fun W => Below wk.heap.size wk W)) (by kernel_rfl) HB0.out (fun hHeld => ?_)
  refine wpAnyH_take (i := 0) (oi := ?oi_1) (v := ?_) ?hi_1 (by kernel_rfl) ?hf_1 (by kernel_rfl) ?hQ_1 ?hy_1 (by assumption) ?_
  case hi_1 => simp only [List.getElem?_toArray, List.getElem?_cons_zero, List.getElem?_cons_succ]; rfl
  case hf_1 => kernel_rfl
  case hQ_1 => exact fun _ _ _ h => h
  case hy_1 =>
    refine Or.inl ⟨by rfl, ?_⟩
    intro W hSw
    go_simp
    try with_reducible rfl
  try simp only [Act.put, List.setIfInBounds_toArray, List.set_cons_zero, List.set_cons_succ]
  refine wpAnyH_take (i := 1) (oi := ?oi_2) (v := ?_) ?hi_2 (by kernel_rfl) ?hf_2 (by kernel_rfl) ?hQ_2 ?hy_2 (by assumption) ?_
  case hi_2 => simp only [List.getElem?_toArray, List.getElem?_cons_zero, List.getElem?_cons_succ]; rfl
  case hf_2 => kernel_rfl
  case hQ_2 => exact fun _ _ _ h => h
  case hy_2 =>
    refine Or.inl ⟨by rfl, ?_⟩
    intro W hSw
    have xj := (HXC.out W hSw).1
    go_simp
    try with_reducible rfl
  try simp only [Act.put, List.setIfInBounds_toArray, List.set_cons_zero, List.set_cons_succ]
  refine wpAnyH_take (i := 2) (oi := ?oi_3) (v := ?_) ?hi_3 (by kernel_rfl) ?hf_3 (by kernel_rfl) ?hQ_3 ?hy_3 (by assumption) ?_
  case hi_3 => simp only [List.getElem?_toArray, List.getElem?_cons_zero, List.getElem?_cons_succ]; rfl
  case hf_3 => kernel_rfl
  case hQ_3 => exact fun _ _ _ h => h
  case hy_3 =>
    refine Or.inl ⟨by rfl, ?_⟩
    intro W hSw
    go_simp
    try with_reducible rfl
  try simp only [Act.put, List.setIfInBounds_toArray, List.set_cons_zero, List.set_cons_succ]
  refine wpAnyH_take (i := 3) (oi := ?oi_4) (v := ?_) ?hi_4 (by kernel_rfl) ?hf_4 (by kernel_rfl) ?hQ_4 ?hy_4 (by assumption) ?_
  case hi_4 => simp only [List.getElem?_toArray, List.getElem?_cons_zero, List.getElem?_cons_succ]; rfl
  case hf_4 => kernel_rfl
  case hQ_4 => exact fun _ _ _ h => h
  case hy_4 =>
    refine Or.inl ⟨by rfl, ?_⟩
    intro W hSw
    go_simp
    try with_reducible rfl
  try simp only [Act.put, List.setIfInBounds_toArray, List.set_cons_zero, List.set_cons_succ]
  refine wpAnyH_take (i := 4) (oi := ?oi_5) (v := ?_) ?hi_5 (by kernel_rfl) ?hf_5 (by kernel_rfl) ?hQ_5 ?hy_5 (by assumption) ?_
  case hi_5 => simp only [List.getElem?_toArray, List.getElem?_cons_zero, List.getElem?_cons_succ]; rfl
  case hf_5 => kernel_rfl
  case hQ_5 => exact fun _ _ _ h => h
  case hy_5 =>
    refine Or.inl ⟨by rfl, ?_⟩
    intro W hSw
    go_simp
    try with_reducible rfl
  try simp only [Act.put, List.setIfInBounds_toArray, List.set_cons_zero, List.set_cons_succ]
  refine wpAnyH_take (i := 5) (oi := ?oi_6) (v := ?_) ?hi_6 (by kernel_rfl) ?hf_6 (by kernel_rfl) ?hQ_6 ?hy_6 (by assumption) ?_
  case hi_6 => simp only [List.getElem?_toArray, List.getElem?_cons_zero, List.getElem?_cons_succ]; rfl
  case hf_6 => kernel_rfl
  case hQ_6 => exact fun _ _ _ h => h
  case hy_6 =>
    refine Or.inl ⟨by rfl, ?_⟩
    intro W hSw
    go_simp
    try with_reducible rfl
  try simp only [Act.put, List.setIfInBounds_toArray, List.set_cons_zero, List.set_cons_succ]
  refine wpAnyH_take (i := 6) (oi := ?oi_7) (v := ?_) ?hi_7 (by kernel_rfl) ?hf_7 (by kernel_rfl) ?hQ_7 ?hy_7 (by assumption) ?_
  case hi_7 => simp only [List.getElem?_toArray, List.getElem?_cons_zero, List.getElem?_cons_succ]; rfl
  case hf_7 => kernel_rfl
  case hQ_7 => exact fun _ _ _ h => h
  case hy_7 =>
    refine Or.inl ⟨by rfl, ?_⟩
    intro W hSw
    have xj := (HXC.out W hSw).2.1
    go_simp
    try with_reducible rfl
  try simp only [Act.put, List.setIfInBounds_toArray, List.set_cons_zero, List.set_cons_succ]
  refine wpAnyH_take (i := 7) (oi := ?oi_8) (v := ?_) ?hi_8 (by kernel_rfl) ?hf_8 (by kernel_rfl) ?hQ_8 ?hy_8 (by assumption) ?_
  case hi_8 => simp only [List.getElem?_toArray, List.getElem?_cons_zero, List.getElem?_cons_succ]; rfl
  case hf_8 => kernel_rfl
  case hQ_8 => exact fun _ _ _ h => h
  case hy_8 =>
    refine Or.inl ⟨by rfl, ?_⟩
    intro W hSw
    go_simp
    try with_reducible rfl
  try simp only [Act.put, List.setIfInBounds_toArray, List.set_cons_zero, List.set_cons_succ]
  refine wpAnyH_take (i := 8) (oi := ?oi_9) (v := ?_) ?hi_9 (by kernel_rfl) ?hf_9 (by kernel_rfl) ?hQ_9 ?hy_9 (by assumption) ?_
  case hi_9 => simp only [List.getElem?_toArray, List.getElem?_cons_zero, List.getElem?_cons_succ]; rfl
  case hf_9 => kernel_rfl
  case hQ_9 => exact fun _ _ _ h => h
  case hy_9 =>
    refine Or.inl ⟨by rfl, ?_⟩
    intro W hSw
    go_simp
    try with_reducible rfl
  try simp only [Act.put, List.setIfInBounds_toArray, List.set_cons_zero, List.set_cons_succ]
  refine wpAnyH_take (i := 9) (oi := ?oi_10) (v := ?_) ?hi_10 (by kernel_rfl) ?hf_10 (by kernel_rfl) ?hQ_10 ?hy_10 (by assumption) ?_
  case hi_10 => simp only [List.getElem?_toArray, List.getElem?_cons_zero, List.getElem?_cons_succ]; rfl
  case hf_10 => kernel_rfl
  case hQ_10 => exact fun _ _ _ h => h
  case hy_10 =>
    refine Or.inl ⟨by rfl, ?_⟩
    intro W hSw
    go_simp
    try with_reducible rfl
  try simp only [Act.put, List.setIfInBounds_toArray, List.set_cons_zero, List.set_cons_succ]
  refine wpAnyH_take (i := 10) (oi := ?oi_11) (v := ?_) ?hi_11 (by kernel_rfl) ?hf_11 (by kernel_rfl) ?hQ_11 ?hy_11 (by assumption) ?_
  case hi_11 => simp only [List.getElem?_toArray, List.getElem?_cons_zero, List.getElem?_cons_succ]; rfl
  case hf_11 => kernel_rfl
  case hQ_11 => exact fun _ _ _ h => h
  case hy_11 =>
    refine Or.inl ⟨by rfl, ?_⟩
    intro W hSw
    go_simp
    try with_reducible rfl
  try simp only [Act.put, List.setIfInBounds_toArray, List.set_cons_zero, List.set_cons_succ]
  refine wpAnyH_take (i := 11) (oi := ?oi_12) (v := ?_) ?hi_12 (by kernel_rfl) ?hf_12 (by kernel_rfl) ?hQ_12 ?hy_12 (by assumption) ?_
  case hi_12 => simp only [List.getElem?_toArray, List.getElem?_cons_zero, List.getElem?_cons_succ]; rfl
  case hf_12 => kernel_rfl
  case hQ_12 => exact fun _ _ _ h => h
  case hy_12 =>
    refine Or.inl ⟨by rfl, ?_⟩
    intro W hSw
    go_simp
    try with_reducible rfl
  try simp only [Act.put, List.setIfInBounds_toArray, List.set_cons_zero, List.set_cons_succ]
  refine wpAnyH_take (i := 12) (oi := ?oi_13) (v := ?_) ?hi_13 (by kernel_rfl) ?hf_13 (by kernel_rfl) ?hQ_13 ?hy_13 (by assumption) ?_
  case hi_13 => simp only [List.getElem?_toArray, List.getElem?_cons_zero, List.getElem?_cons_succ]; rfl
  case hf_13 => kernel_rfl
  case hQ_13 => exact fun _ _ _ h => h
  case hy_13 =>
    refine Or.inl ⟨by rfl, ?_⟩
    intro W hSw
    have xj := (HXC.out W hSw).2.2.1
    go_simp
    try with_reducible rfl
  try simp only [Act.put, List.setIfInBounds_toArray, List.set_cons_zero, List.set_cons_succ]
  refine wpAnyH_take (i := 13) (oi := ?oi_14) (v := ?_) ?hi_14 (by kernel_rfl) ?hf_14 (by kernel_rfl) ?hQ_14 ?hy_14 (by assumption) ?_
  case hi_14 => simp only [List.getElem?_toArray, List.getElem?_cons_zero, List.getElem?_cons_succ]; rfl
  case hf_14 => kernel_rfl
  case hQ_14 => exact fun _ _ _ h => h
  case hy_14 =>
    refine Or.inl ⟨by rfl, ?_⟩
    intro W hSw
    go_simp
    try with_reducible rfl
  try simp only [Act.put, List.setIfInBounds_toArray, List.set_cons_zero, List.set_cons_succ]
  refine wpAnyH_ready (rs := [14]) (by kernel_rfl) (by simp) ?_
  refine AllReadyH.cons (o := ?oi_15) ?hi_15 (fun K hK => ?_) AllReadyH.nil
  case hi_15 => simp only [List.getElem?_toArray, List.getElem?_cons_zero, List.getElem?_cons_succ]; rfl
  go_simp
  (go_at_call 39
   with_reducible refine (HFm.out _).mono ?_
   rintro e wA ⟨rfl, rfl⟩)
  refine hK.out _ _ (below_drewN (Below.refl _ _) 1) (fun hHeld => ?_)
  clear hK K
  try simp only [Act.put, List.setIfInBounds_toArray, List.set_cons_zero, List.set_cons_succ]
  refine wpAnyH_take (i := 15) (oi := ?oi_16) (v := ?_) ?hi_16 (by kernel_rfl) ?hf_16 (by kernel_rfl) ?hQ_16 ?hy_16 (by assumption) ?_
  case hi_16 => simp only [List.getElem?_toArray, List.getElem?_cons_zero, List.getElem?_cons_succ]; rfl
  case hf_16 => kernel_rfl
  case hQ_16 => exact fun _ _ _ h => h
  case hy_16 =>
    refine Or.inl ⟨by rfl, ?_⟩
    intro W hSw
    go_simp
    try with_reducible rfl
  try simp only [Act.put, List.setIfInBounds_toArray, List.set_cons_zero, List.set_cons_succ]
  refine wpAnyH_take (i := 16) (oi := ?oi_17) (v := ?_) ?hi_17 (by kernel_rfl) ?hf_17 (by kernel_rfl) ?hQ_17 ?hy_17 (by assumption) ?_
  case hi_17 => simp only [List.getElem?_toArray, List.getElem?_cons_zero, List.getElem?_cons_succ]; rfl
  case hf_17 => kernel_rfl
  case hQ_17 => exact fun _ _ _ h => h
  case hy_17 =>
    refine Or.inl ⟨by rfl, ?_⟩
    intro W hSw
    go_simp
    try with_reducible rfl
  try simp only [Act.put, List.setIfInBounds_toArray, List.set_cons_zero, List.set_cons_succ]
  refine wpAnyH_take (i := 17) (oi := ?oi_18) (v := ?_) ?hi_18 (by kernel_rfl) ?hf_18 (by kernel_rfl) ?hQ_18 ?hy_18 (by assumption) ?_
  case hi_18 => simp only [List.getElem?_toArray, List.getElem?_cons_zero, List.getElem?_cons_succ]; rfl
  case hf_18 => kernel_rfl
  case hQ_18 => exact fun _ _ _ h => h
  case hy_18 =>
    refine Or.inl ⟨by rfl, ?_⟩
    intro W hSw
    go_simp
    try with_reducible rfl
  try simp only [Act.put, List.setIfInBounds_toArray, List.set_cons_zero, List.set_cons_succ]
  refine wpAnyH_take (i := 18) (oi := ?oi_19) (v := ?_) ?hi_19 (by kernel_rfl) ?hf_19 (by kernel_rfl) ?hQ_19 ?hy_19 (by assumption) ?_
  case hi_19 => simp only [List.getElem?_toArray, List.getElem?_cons_zero, List.getElem?_cons_succ]; rfl
  case hf_19 => kernel_rfl
  case hQ_19 => exact fun _ _ _ h => h
  case hy_19 =>
    refine Or.inl ⟨by rfl, ?_⟩
    intro W hSw
    go_simp
    try with_reducible rfl
  try simp only [Act.put, List.setIfInBounds_toArray, List.set_cons_zero, List.set_cons_succ]
  refine wpAnyH_take (i := 19) (oi := ?oi_20) (v := ?_) ?hi_20 (by kernel_rfl) ?hf_20 (by kernel_rfl) ?hQ_20 ?hy_20 (by assumption) ?_
  case hi_20 => simp only [List.getElem?_toArray, List.getElem?_cons_zero, List.getElem?_cons_succ]; rfl
  case hf_20 => kernel_rfl
  case hQ_20 => exact fun _ _ _ h => h
  case hy_20 =>
    refine Or.inl ⟨by rfl, ?_⟩
    intro W hSw
    have xj := (HXC.out W hSw).2.2.2.1
    go_simp
    try with_reducible rfl
  try simp only [Act.put, List.setIfInBounds_toArray, List.set_cons_zero, List.set_cons_succ]
  refine wpAnyH_take (i := 20) (oi := ?oi_21) (v := ?_) ?hi_21 (by kernel_rfl) ?hf_21 (by kernel_rfl) ?hQ_21 ?hy_21 (by assumption) ?_
  case hi_21 => simp only [List.getElem?_toArray, List.getElem?_cons_zero, List.getElem?_cons_succ]; rfl
  case hf_21 => kernel_rfl
  case hQ_21 => exact fun _ _ _ h => h
  case hy_21 =>
    refine Or.inl ⟨by rfl, ?_⟩
    intro W hSw
    go_simp
    try with_reducible rfl
  try simp only [Act.put, List.setIfInBounds_toArray, List.set_cons_zero, List.set_cons_succ]
  refine wpAnyH_ready (rs := [21]) (by kernel_rfl) (by simp) ?_
  refine AllReadyH.cons (o := ?oi_22) ?hi_22 (fun K hK => ?_) AllReadyH.nil
  case hi_22 => simp only [List.getElem?_toArray, List.getElem?_cons_zero, List.getElem?_cons_succ]; rfl
  go_simp
  (go_at_call 40
   with_reducible refine (HS1.out _ HB0.out).mono ?_
   rintro e wB ⟨rfl, hbB⟩
   have HBB : Hid (Below wk.heap.size wk wB) := Lib.hid (HB0.out.trans (hbB.mono HB0.out.size))
   clear hbB)
  refine hK.out _ _ HBB.out (fun hHeld => ?_)
  clear hK K
  try simp only [Act.put, List.setIfInBounds_toArray, List.set_cons_zero, List.set_cons_succ]
  refine wpAnyH_take (i := 22) (oi := ?oi_23) (v := ?_) ?hi_23 (by kernel_rfl) ?hf_23 (by kernel_rfl) ?hQ_23 ?hy_23 (by assumption) ?_
  case hi_23 => simp only [List.getElem?_toArray, List.getElem?_cons_zero, List.getElem?_cons_succ]; rfl
  case hf_23 => kernel_rfl
  case hQ_23 => exact fun _ _ _ h => h
  case hy_23 =>
    refine Or.inl ⟨by rfl, ?_⟩
    intro W hSw
    go_simp
    try with_reducible rfl
  try simp only [Act.put, List.setIfInBounds_toArray, List.set_cons_zero, List.set_cons_succ]
  refine wpAnyH_take (i := 23) (oi := ?oi_24) (v := ?_) ?hi_24 (by kernel_rfl) ?hf_24 (by kernel_rfl) ?hQ_24 ?hy_24 (by assumption) ?_
  case hi_24 => simp only [List.getElem?_toArray, List.getElem?_cons_zero, List.getElem?_cons_succ]; rfl
  case hf_24 => kernel_rfl
  case hQ_24 => exact fun _ _ _ h => h
  case hy_24 =>
    refine Or.inl ⟨by rfl, ?_⟩
    intro W hSw
    go_simp
    try with_reducible rfl
  try simp only [Act.put, List.setIfInBounds_toArray, List.set_cons_zero, List.set_cons_succ]
  refine wpAnyH_take (i := 24) (oi := ?oi_25) (v := ?_) ?hi_25 (by kernel_rfl) ?hf_25 (by kernel_rfl) ?hQ_25 ?hy_25 (by assumption) ?_
  case hi_25 => simp only [List.getElem?_toArray, List.getElem?_cons_zero, List.getElem?_cons_succ]; rfl
  case hf_25 => kernel_rfl
  case hQ_25 => exact fun _ _ _ h => h
  case hy_25 =>
    refine Or.inl ⟨by rfl, ?_⟩
    intro W hSw
    go_simp
    try with_reducible rfl
  try simp only [Act.put, List.setIfInBounds_toArray, List.set_cons_zero, List.set_cons_succ]
  refine wpAnyH_take (i := 25) (oi := ?oi_26) (v := ?_) ?hi_26 (by kernel_rfl) ?hf_26 (by kernel_rfl) ?hQ_26 ?hy_26 (by assumption) ?_
  case hi_26 => simp only [List.getElem?_toArray, List.getElem?_cons_zero, List.getElem?_cons_succ]; rfl
  case hf_26 => kernel_rfl
  case hQ_26 => exact fun _ _ _ h => h
  case hy_26 =>
    refine Or.inl ⟨by rfl, ?_⟩
    intro W hSw
    have xj := (HXC.out W hSw).2.2.2.2
    go_simp
    try with_reducible rfl
  try simp only [Act.put, List.setIfInBounds_toArray, List.set_cons_zero, List.set_cons_succ]
  refine wpAnyH_take (i := 26) (oi := ?oi_27) (v := ?_) ?hi_27 (by kernel_rfl) ?hf_27 (by kernel_rfl) ?hQ_27 ?hy_27 (by assumption) ?_
  case hi_27 => simp only [List.getElem?_toArray, List.getElem?_cons_zero, List.getElem?_cons_succ]; rfl
  case hf_27 => kernel_rfl
  case hQ_27 => exact fun _ _ _ h => h
  case hy_27 =>
    refine Or.inl ⟨by rfl, ?_⟩
    intro W hSw
    go_simp
    try with_reducible rfl
  try simp only [Act.put, List.setIfInBounds_toArray, List.set_cons_zero, List.set_cons_succ]
  refine wpAnyH_ready (rs := [27]) (by kernel_rfl) (by simp) ?_
  refine AllReadyH.cons (o := ?oi_28) ?hi_28 (fun K hK => ?_) AllReadyH.nil
  case hi_28 => simp only [List.getElem?_toArray, List.getElem?_cons_zero, List.getElem?_cons_succ]; rfl
  go_simp
  (go_at_call 40
   with_reducible refine (HS2.out _ HBB.out).mono ?_
   rintro e wC ⟨rfl, hbC⟩
   have HBC : Hid (Below wk.heap.size wk wC) := Lib.hid (HBB.out.trans (hbC.mono HBB.out.size))
   clear hbC)
  refine hK.out _ _ HBC.out (fun hHeld => ?_)
  clear hK K
  try simp only [Act.put, List.setIfInBounds_toArray, List.set_cons_zero, List.set_cons_succ]
  refine wpAnyH_take (i := 28) (oi := ?oi_29) (v := ?_) ?hi_29 (by kernel_rfl) ?hf_29 (by kernel_rfl) ?hQ_29 ?hy_29 (by assumption) ?_
  case hi_29 => simp only [List.getElem?_toArray, List.getElem?_cons_zero, List.getElem?_cons_succ]; rfl
  case hf_29 => kernel_rfl
  case hQ_29 => exact fun _ _ _ h => h
  case hy_29 =>
    refine Or.inl ⟨by rfl, ?_⟩
    intro W hSw
    go_simp
    try with_reducible rfl
  try simp only [Act.put, List.setIfInBounds_toArray, List.set_cons_zero, List.set_cons_succ]
  refine wpAnyH_take (i := 29) (oi := ?oi_30) (v := ?_) ?hi_30 (by kernel_rfl) ?hf_30 (by kernel_rfl) ?hQ_30 ?hy_30 (by assumption) ?_
  case hi_30 => simp only [List.getElem?_toArray, List.getElem?_cons_zero, List.getElem?_cons_succ]; rfl
  case hf_30 => kernel_rfl
  case hQ_30 => exact fun _ _ _ h => h
  case hy_30 =>
    refine Or.inl ⟨by rfl, ?_⟩
    intro W hSw
    go_simp
    try with_reducible rfl
  try simp only [Act.put, List.setIfInBounds_toArray, List.set_cons_zero, List.set_cons_succ]
  refine wpAnyH_ready (rs := [30]) (by kernel_rfl) (by simp) ?_
  refine AllReadyH.cons (o := ?oi_31) ?hi_31 (fun K hK => ?_) AllReadyH.nil
  case hi_31 => simp only [List.getElem?_toArray, List.getElem?_cons_zero, List.getElem?_cons_succ]; rfl
  go_simp
  (go_at_call 37
   with_reducible refine (HW.out _ (HT.out.below (HBK.out.trans (HBC.out.mono HBK.out.size)) HT.out.size)).mono ?_
   rintro e wF ⟨rfl, hbF⟩
   have HBF : Hid (Below wk.heap.size wk wF) := Lib.hid (HBC.out.trans (hbF.mono HBC.out.size))
   clear hbF)
  refine hK.out _ _ HBF.out (fun hHeld => ?_)
  clear hK K
  try simp only [Act.put, List.setIfInBounds_toArray, List.set_cons_zero, List.set_cons_succ]
  refine wpAnyH_take (i := 31) (oi := ?oi_32) (v := ?_) ?hi_32 (by kernel_rfl) ?hf_32 (by kernel_rfl) ?hQ_32 ?hy_32 (by assumption) ?_
  case hi_32 => simp only [List.getElem?_toArray, List.getElem?_cons_zero, List.getElem?_cons_succ]; rfl
  case hf_32 => kernel_rfl
  case hQ_32 => exact fun _ _ _ h => h
  case hy_32 =>
    refine Or.inl ⟨by rfl, ?_⟩
    intro W hSw
    go_simp
    try with_reducible rfl
  try simp only [Act.put, List.setIfInBounds_toArray, List.set_cons_zero, List.set_cons_succ]
  refine wpAnyH_take (i := 32) (oi := ?oi_33) (v := ?_) ?hi_33 (by kernel_rfl) ?hf_33 (by kernel_rfl) ?hQ_33 ?hy_33 (by assumption) ?_
  case hi_33 => simp only [List.getElem?_toArray, List.getElem?_cons_zero, List.getElem?_cons_succ]; rfl
  case hf_33 => kernel_rfl
  case hQ_33 => exact fun _ _ _ h => h
  case hy_33 =>
    refine Or.inl ⟨by rfl, ?_⟩
    intro W hSw
    go_simp
    try with_reducible rfl
  try simp only [Act.put, List.setIfInBounds_toArray, List.set_cons_zero, List.set_cons_succ]
  refine wpAnyH_done (by kernel_rfl) ?_ _
  clear hHeld
  go_wp2
  go_ret
  exact ⟨rfl, HBK.out.trans (HBF.out.mono HBK.out.size)⟩
end Go.Proofs.YtalpkdnnclghaaaDoor
