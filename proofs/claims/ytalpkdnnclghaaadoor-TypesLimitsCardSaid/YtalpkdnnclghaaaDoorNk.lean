/-
  A signature's text.
-/
import Derived.Test.YtalpkdnnclghaaaDoorMa
import Derived.Deep.RegionHeld3
import Derived.Outline
namespace Go.Proofs.YtalpkdnnclghaaaDoor
open Go.RowKit Go.ChangeShapes Go.WideShapes Go.ChangeAt
set_option linter.unusedVariables false
set_option linter.unusedSimpArgs false
theorem bdN {B : Nat} {w w' : World} (h : Below B w w') (n : Nat) : Below B w (w'.drewN n) := ⟨h.os, h.tape, h.output, h.size, h.block⟩
theorem bdD {B : Nat} {w w' : World} (h : Below B w w') : Below B w w'.drew := ⟨h.os, h.tape, h.output, h.size, h.block⟩
theorem txtL_size (l : List Nat) : (txtL l).size ≤ 2 + 4 * l.length := by
  unfold txtL
  rw [sz_of, List.length_append, List.length_singleton]
  have := txt_len l l.length
  omega
theorem cat_ok (a b : ByteArray) (h : a.size + b.size ≤ 100000) : Op.stringOp .add a b = pure (.string (a ++ b)) := by
  unfold Op.stringOp
  simp only []
  rw [if_neg]
  show ¬ (((a.size + b.size : Nat) : Int) > 9223372036854775807)
  omega
theorem cat_eq (l r : List Nat) : txtL l ++ ⟨#[45, 62]⟩ ++ txtL r = ⟨(sgT l r).toArray⟩ := by
  rw [txtL_eq, txtL_eq]
  apply ByteArray.ext
  simp [sgT, ByteArray.data_append]
theorem app_size (a b : ByteArray) : (a ++ b).size = a.size + b.size := ByteArray.size_append
set_option maxHeartbeats 4000000 in
set_option maxRecDepth 100000 in
theorem SPrint_any (A B : Option Addr) (n c m d : Nat) (l r : List Nat) (hn : n ≤ 1000) (hm : m ≤ 1000) (w : World) (ha : Byt w A n c l) (hb : Byt w B m d r) :
    Calls Tryd.prog 17 #[.agg #[.slice A n c, .slice B m d]] w fun e w' => e = .returned (.string ⟨(sgT l r).toArray⟩) ∧ Below w.heap.size w w' := by
  have z1 : (txtL l).size ≤ 4002 := by have := txtL_size l; have := ha.1; omega
  have z2 : (txtL r).size ≤ 4002 := by have := txtL_size r; have := hb.1; omega
  have ta : ∀ W, Below w.heap.size w W → Calls Tryd.prog 46 #[.slice A n c] W fun e w' => e = .returned (.string (txtL l)) ∧ Below W.heap.size W w' := fun W h => text_any A n c l hn W (ha.below h)
  have tb : ∀ W, Below w.heap.size w W → Calls Tryd.prog 46 #[.slice B m d] W fun e w' => e = .returned (.string (txtL r)) ∧ Below W.heap.size W w' := fun W h => text_any B m d r hm W (hb.below h)
  rw [← cat_eq]
  generalize txtL l = Tl at z1 ta
  generalize txtL r = Tr at z2 tb
  have c1 := cat_ok Tl ⟨#[45, 62]⟩ (by have : (⟨#[45, 62]⟩ : ByteArray).size = 2 := rfl; omega)
  have c2 := cat_ok (Tl ++ ⟨#[45, 62]⟩) Tr (by have : (⟨#[45, 62]⟩ : ByteArray).size = 2 := rfl; rw [app_size]; omega)
  clear z1 z2 ha hb
  obtain ⟨W0, hW0⟩ : ∃ W0, W0 = w.alloc (.cells #[.slice A n c, .slice B m d] 27) := ⟨_, rfl⟩
  have HS : Hid (w.heap.size + 1 ≤ W0.heap.size) := Lib.hid (by rw [hW0]; simp)
  have HW0 : Hid (Below w.heap.size w W0) := Lib.hid (by rw [hW0]; exact (Below.refl _ _).alloc (Nat.le_refl _) _)
  have HXC : Hid (∀ W, Below (w.heap.size + 1) W0 W → W.cell? ⟨w.heap.size, 0, none⟩ = some (.slice A n c) ∧ W.cell? ⟨w.heap.size, 1, none⟩ = some (.slice B m d)) := Lib.hid (fun W h => by
    rw [hW0] at h
    have hk : Blk W w.heap.size 27 #[.slice A n c, .slice B m d] := (Blk.new w 27 _).below h (by omega)
    exact ⟨hk.cell 0, hk.cell 1⟩)
  have HTA : Hid (∀ W, Below (w.heap.size + 1) W0 W → Calls Tryd.prog 46 #[.slice A n c] W fun e w' => e = .returned (.string Tl) ∧ Below W.heap.size W w') := Lib.hid (fun W h => ta W (HW0.out.trans (h.mono (Nat.le_succ _))))
  have HTB : Hid (∀ W, Below (w.heap.size + 1) W0 W → Calls Tryd.prog 46 #[.slice B m d] W fun e w' => e = .returned (.string Tr) ∧ Below W.heap.size W w') := Lib.hid (fun W h => tb W (HW0.out.trans (h.mono (Nat.le_succ _))))
  have HWE := Lib.hid hW0
  clear ta tb hW0
  go_enter Tryd.func17, Tryd.ntmps17
  go_wp2_with fail
  rw [← HWE.out]
  refine wp_region_held_drew (S := (fun W => Below (w.heap.size + 1) W0 W)) (by kernel_rfl) (bdD (Below.refl _ _)) (fun hHeld => ?_)
  refine wpAnyH_take (i := 0) (oi := ?oi_1) (v := ?_) ?hi_1 (by kernel_rfl) ?hf_1 (by kernel_rfl) ?hQ_1 ?hy_1 (by assumption) ?_
  case hi_1 => simp only [List.getElem?_toArray, List.getElem?_cons_zero, List.getElem?_cons_succ]; rfl
  case hf_1 => kernel_rfl
  case hQ_1 => exact fun _ _ _ h => h
  case hy_1 =>
    refine Or.inl ⟨by rfl, ?_⟩
    intro W hSw
    go_simp
    try with_reducible rfl
  try simp only [Act.put, List.setIfInBounds_toArray, List.set_cons_zero, List.set_cons_succ]
  refine wpAnyH_take (i := 1) (oi := ?oi_2) (v := ?_) ?hi_2 (by kernel_rfl) ?hf_2 (by kernel_rfl) ?hQ_2 ?hy_2 (by assumption) ?_
  case hi_2 => simp only [List.getElem?_toArray, List.getElem?_cons_zero, List.getElem?_cons_succ]; rfl
  case hf_2 => kernel_rfl
  case hQ_2 => exact fun _ _ _ h => h
  case hy_2 =>
    refine Or.inl ⟨by rfl, ?_⟩
    intro W hSw
    have x0 := (HXC.out W hSw).1
    go_simp
    try with_reducible rfl
  try simp only [Act.put, List.setIfInBounds_toArray, List.set_cons_zero, List.set_cons_succ]
  refine wpAnyH_take (i := 4) (oi := ?oi_3) (v := ?_) ?hi_3 (by kernel_rfl) ?hf_3 (by kernel_rfl) ?hQ_3 ?hy_3 (by assumption) ?_
  case hi_3 => simp only [List.getElem?_toArray, List.getElem?_cons_zero, List.getElem?_cons_succ]; rfl
  case hf_3 => kernel_rfl
  case hQ_3 => exact fun _ _ _ h => h
  case hy_3 =>
    refine Or.inl ⟨by rfl, ?_⟩
    intro W hSw
    go_simp
    try with_reducible rfl
  try simp only [Act.put, List.setIfInBounds_toArray, List.set_cons_zero, List.set_cons_succ]
  refine wpAnyH_take (i := 5) (oi := ?oi_4) (v := ?_) ?hi_4 (by kernel_rfl) ?hf_4 (by kernel_rfl) ?hQ_4 ?hy_4 (by assumption) ?_
  case hi_4 => simp only [List.getElem?_toArray, List.getElem?_cons_zero, List.getElem?_cons_succ]; rfl
  case hf_4 => kernel_rfl
  case hQ_4 => exact fun _ _ _ h => h
  case hy_4 =>
    refine Or.inl ⟨by rfl, ?_⟩
    intro W hSw
    have x1 := (HXC.out W hSw).2
    go_simp
    try with_reducible rfl
  try simp only [Act.put, List.setIfInBounds_toArray, List.set_cons_zero, List.set_cons_succ]
  refine wpAnyH_ready (rs := [2]) (by kernel_rfl) (by simp) ?_
  refine AllReadyH.cons (o := ?oi_5) ?hi_5 (fun K hK => ?_) AllReadyH.nil
  case hi_5 => simp only [List.getElem?_toArray, List.getElem?_cons_zero, List.getElem?_cons_succ]; rfl
  go_simp
  (go_at_call 46
   with_reducible refine (HTA.out _ (bdD (Below.refl _ _))).mono ?_
   rintro e wB ⟨rfl, hbB⟩
   have HBB : Hid (Below (w.heap.size + 1) W0 wB) := Lib.hid ((bdD (Below.refl _ _)).trans (hbB.mono HS.out))
   clear hbB)
  refine hK.out _ _ HBB.out (fun hHeld => ?_)
  clear hK K
  try simp only [Act.put, List.setIfInBounds_toArray, List.set_cons_zero, List.set_cons_succ]
  refine wpAnyH_take (i := 3) (oi := ?oi_6) (v := ?_) ?hi_6 (by kernel_rfl) ?hf_6 (by kernel_rfl) ?hQ_6 ?hy_6 (by assumption) ?_
  case hi_6 => simp only [List.getElem?_toArray, List.getElem?_cons_zero, List.getElem?_cons_succ]; rfl
  case hf_6 => kernel_rfl
  case hQ_6 => exact fun _ _ _ h => h
  case hy_6 =>
    refine Or.inl ⟨by rfl, ?_⟩
    intro W hSw
    go_simp
    try with_reducible rfl
  try simp only [Act.put, List.setIfInBounds_toArray, List.set_cons_zero, List.set_cons_succ]
  refine wpAnyH_ready (rs := [6]) (by kernel_rfl) (by simp) ?_
  refine AllReadyH.cons (o := ?oi_7) ?hi_7 (fun K hK => ?_) AllReadyH.nil
  case hi_7 => simp only [List.getElem?_toArray, List.getElem?_cons_zero, List.getElem?_cons_succ]; rfl
  go_simp
  (go_at_call 46
   with_reducible refine (HTB.out _ HBB.out).mono ?_
   rintro e wC ⟨rfl, hbC⟩
   have HBC : Hid (Below (w.heap.size + 1) W0 wC) := Lib.hid (HBB.out.trans (hbC.mono (Nat.le_trans HS.out HBB.out.size)))
   clear hbC)
  refine hK.out _ _ HBC.out (fun hHeld => ?_)
  clear hK K
  try simp only [Act.put, List.setIfInBounds_toArray, List.set_cons_zero, List.set_cons_succ]
  refine wpAnyH_take (i := 7) (oi := ?oi_8) (v := ?_) ?hi_8 (by kernel_rfl) ?hf_8 (by kernel_rfl) ?hQ_8 ?hy_8 (by assumption) ?_
  case hi_8 => simp only [List.getElem?_toArray, List.getElem?_cons_zero, List.getElem?_cons_succ]; rfl
  case hf_8 => kernel_rfl
  case hQ_8 => exact fun _ _ _ h => h
  case hy_8 =>
    refine Or.inl ⟨by rfl, ?_⟩
    intro W hSw
    go_simp
    try with_reducible rfl
  try simp only [Act.put, List.setIfInBounds_toArray, List.set_cons_zero, List.set_cons_succ]
  refine wpAnyH_take (i := 8) (oi := ?oi_9) (v := ?_) ?hi_9 (by kernel_rfl) ?hf_9 (by kernel_rfl) ?hQ_9 ?hy_9 (by assumption) ?_
  case hi_9 => simp only [List.getElem?_toArray, List.getElem?_cons_zero, List.getElem?_cons_succ]; rfl
  case hf_9 => kernel_rfl
  case hQ_9 => exact fun _ _ _ h => h
  case hy_9 =>
    refine Or.inl ⟨by rfl, ?_⟩
    intro W hSw
    go_simp
    try with_reducible rfl
  try simp only [Act.put, List.setIfInBounds_toArray, List.set_cons_zero, List.set_cons_succ]
  refine wpAnyH_done (by kernel_rfl) ?_ _
  clear hHeld
  go_wp2
  go_ret
  exact ⟨rfl, HW0.out.trans (HBC.out.mono (Nat.le_succ _))⟩
end Go.Proofs.YtalpkdnnclghaaaDoor
