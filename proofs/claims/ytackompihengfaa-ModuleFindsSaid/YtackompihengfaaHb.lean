/-
  ModuleFinds: the walk.
-/
import Derived.Test.YtackompihengfaaHa
import Derived.Test.YtackompihengfaaFh
import Derived.BigQuiet
import Derived.Deep.RegionHeld3
import Derived.Deep.DeepCutAuto
namespace Go.Proofs.Ytackompihengfaa
open Go.RowKit Go.PlainAid Go.ChangeShapes Go.WideShapes Go.ChangeAt
set_option linter.unusedVariables false
set_option linter.unusedSimpArgs false
set_option maxHeartbeats 8000000 in
set_option maxRecDepth 1000000 in
theorem moduleFinds_walk (x : Mt) (f : Int) (s : ByteArray) (w : World) (hx : MtAt w x) (hb : MtBd x) (hf : (Lit.int .i64 f).wf = true) :
    Calls Try.prog 3 #[.agg x.cells, .int .i64 f, .string s] w fun e w' => e = .returned (.bool true) ∧ Below w.heap.size w w' := by
  have hf9 := bounds_i64 hf
  have HGR := Lib.hid (fun W (hW : Below w.heap.size w W) => Great13_ok x W (hx.below hW) hb)
  have HTO := Lib.hid (fun (hs : MtSm x) W (hW : Below w.heap.size w W) => To13_ok x W (hx.below hW) hs)
  have HUN := Lib.hid (fun (hs : MtSm x) W (hW : Below w.heap.size w W) => Unfit_ok x W (hx.below hW) hs)
  have HLS := Lib.hid (fun (W : World) (hW : Below w.heap.size w W) (f j : Nat) => LSig_ok x f j W (hx.below hW))
  have HSI := Lib.hid (fun (W : World) (hW : Below w.heap.size w W) (B g : Nat) (sv fv : Value) (SP SR LV IV : Nat → Value) (S : Nat → Nat → Value) (hm : MdAt W B g x sv fv SP SR LV IV S) (f j : Nat) => Sig_ok x B g sv fv SP SR LV IV S f j W (hx.below hW) hm)
  have HX := Lib.hid hx
  have HSX := Lib.hid (fun (a : MtFit x) => a)
  have HW0 : Hid (∃ W, W = w.alloc (.cells x.cells 31)) := Lib.hid ⟨_, rfl⟩
  obtain ⟨W0, hW0⟩ := HW0.out
  have hb0 : Below w.heap.size w W0 := by rw [hW0]; exact (Below.refl _ _).alloc (Nat.le_refl _) _
  have hbk : Blk W0 w.heap.size 31 x.cells := by rw [hW0]; exact Blk.new w 31 _
  have HB0 := Lib.hid hb0
  have HBX := Lib.hid hbk
  have HWE := Lib.hid hW0
  obtain ⟨bx, hbx⟩ : ∃ bx, bx = w.heap.size := ⟨_, rfl⟩
  rw [← hbx] at HBX
  have HBXE := Lib.hid hbx
  clear hx hb hf hb0 hbk hW0 hbx HW0
  obtain ⟨⟨A0, n0, c0⟩, X0, ⟨A1, n1, c1⟩, X1, ⟨A2, n2, c2⟩, X2, tab, ⟨A4, n4, c4⟩, X4, ⟨A5, n5, c5⟩, X5, ⟨A6, n6, c6⟩, X6, start, ⟨A8, n8, c8⟩, X8, ⟨A9, n9, c9⟩, X9⟩ := x
  unfold Mt.cells Sv.v at *
  dsimp only at *
  have hbx0 : bx < W0.heap.size := HBX.out.lt
  go_enter Try.func3, Try.ntmps3
  go_wp2_with fail
  rw [← HWE.out, ← HBXE.out]
  with_reducible refine (HGR.out _ HB0.out).mono ?_
  intro e Wa hg
  unfold MGr at hg
  obtain ⟨hba, r0, rfl, hr0⟩ := hg
  have HBa := Lib.hid (HB0.out.trans (hba.mono HB0.out.size))
  have HCX : Hid (∀ W, Below W0.heap.size W0 W → Blk W bx 31 #[.slice A0 n0 c0, .slice A1 n1 c1, .slice A2 n2 c2, .int .i64 tab, .slice A4 n4 c4, .slice A5 n5 c5, .slice A6 n6 c6, .int .i64 start, .slice A8 n8 c8, .slice A9 n9 c9]) := Lib.hid (fun W hW => HBX.out.below hW HBX.out.lt)
  have HB0a := Lib.hid hba
  have HR0 := Lib.hid hr0
  clear hba hr0
  by_cases hz : r0 = 0
  case neg =>
    have hz1 : 0 < r0 := by omega
    go_wp2_with (go_at_call 8; (with_reducible refine (awake13_any _).mono ?_); rintro e w2 ⟨rfl, hb2⟩; have HB2 := Lib.hid (HBa.out.trans (hb2.mono HBa.out.size)); clear hb2)
    go_ret
    exact ⟨rfl, HB2.out⟩
  subst hz
  have HSMALL := Lib.hid (HR0.out rfl)
  by_cases h60 : 60 < s.size
  case pos =>
    go_wp2_with (go_at_call 8; (with_reducible refine (awake13_any _).mono ?_); rintro e w2 ⟨rfl, hb2⟩; have HB2 := Lib.hid (HBa.out.trans (hb2.mono HBa.out.size)); clear hb2)
    go_ret
    exact ⟨rfl, HB2.out⟩
  go_wp2_with fail
  with_reducible refine (awake13_any _).mono ?_
  rintro e Wb ⟨rfl, hbb⟩
  have HBb := Lib.hid (HBa.out.trans (hbb.mono HBa.out.size))
  have HB0b := Lib.hid (HB0a.out.trans (hbb.mono HB0a.out.size))
  clear hbb
  have x0 : Wb.cell? ⟨bx, 0, none⟩ = some (.slice A0 n0 c0) := (HCX.out Wb HB0b.out).cell 0
  have x1 : Wb.cell? ⟨bx, 1, none⟩ = some (.slice A1 n1 c1) := (HCX.out Wb HB0b.out).cell 1
  have x2 : Wb.cell? ⟨bx, 2, none⟩ = some (.slice A2 n2 c2) := (HCX.out Wb HB0b.out).cell 2
  have x3 : Wb.cell? ⟨bx, 3, none⟩ = some (.int .i64 tab) := (HCX.out Wb HB0b.out).cell 3
  have x4 : Wb.cell? ⟨bx, 4, none⟩ = some (.slice A4 n4 c4) := (HCX.out Wb HB0b.out).cell 4
  have x5 : Wb.cell? ⟨bx, 5, none⟩ = some (.slice A5 n5 c5) := (HCX.out Wb HB0b.out).cell 5
  have x6 : Wb.cell? ⟨bx, 6, none⟩ = some (.slice A6 n6 c6) := (HCX.out Wb HB0b.out).cell 6
  have x7 : Wb.cell? ⟨bx, 7, none⟩ = some (.int .i64 start) := (HCX.out Wb HB0b.out).cell 7
  have x8 : Wb.cell? ⟨bx, 8, none⟩ = some (.slice A8 n8 c8) := (HCX.out Wb HB0b.out).cell 8
  have x9 : Wb.cell? ⟨bx, 9, none⟩ = some (.slice A9 n9 c9) := (HCX.out Wb HB0b.out).cell 9
  have q0 : n0 ≤ 60 := HSMALL.out.n0
  have q1 : n1 ≤ 25 := HSMALL.out.n1
  have q2 : n2 ≤ 110 := HSMALL.out.n2
  have q6 : n6 ≤ 60 := HSMALL.out.n6
  go_wp2_with fail
  with_reducible refine (HTO.out HSMALL.out _ HBb.out).mono ?_
  intro e Wc hc
  obtain ⟨hbc, g, sv, fv, SP, SR, LV, IV, S, rfl, hm⟩ := hc
  have hm : MdAt Wc Wb.heap.size g ⟨⟨A0, n0, c0⟩, X0, ⟨A1, n1, c1⟩, X1, ⟨A2, n2, c2⟩, X2, tab, ⟨A4, n4, c4⟩, X4, ⟨A5, n5, c5⟩, X5, ⟨A6, n6, c6⟩, X6, start, ⟨A8, n8, c8⟩, X8, ⟨A9, n9, c9⟩, X9⟩ sv fv SP SR LV IV S := hm
  obtain ⟨Af, cf, rfl⟩ := own_slice hm.fn.1
  have HBc := Lib.hid (HBb.out.trans (hbc.mono HBb.out.size))
  have HB0c := Lib.hid (HB0b.out.trans (hbc.mono HB0b.out.size))
  have HMD := Lib.hid hm
  obtain ⟨na, hna⟩ : ∃ na, na = n1 + n2 := ⟨_, rfl⟩
  have HCT : Hid (∀ W, Below Wc.heap.size Wc W → Calls Try.prog 10 #[.pointer (some ⟨g, 0, none⟩)] W fun e w' => e = .returned (.int .i64 (na : Int)) ∧ Below W.heap.size W w') := Lib.hid (fun W hW => by
    rw [hna]
    exact Count_ok g _ _ _ _ _ _ _ (by omega) (by omega) rfl rfl W (HMD.out.blk.below hW HMD.out.blk.lt))
  have HNA := Lib.hid hna
  have hw12 : IntKind.i64.wrap ((n1 : Int) + (n2 : Int)) = (na : Int) := by rw [IntKind.wrap_i64]; omega
  have hs1 : s.size ≤ 1000 := by omega
  have HNMs := Lib.hid (fun W => Named_any s hs1 W)
  have HNLs := Lib.hid (fun W => named_any s hs1 W)
  obtain ⟨nb, hnb⟩ : ∃ nb, nb = nmB s := ⟨_, rfl⟩
  rw [← hnb] at HNMs HNLs
  have HNM := HNMs
  have HNL := HNLs
  have HBd : Hid (Below Wc.heap.size Wc Wc.drew) := Lib.hid (below_drew (Below.refl _ _))
  have hbd : bx < Wc.drew.heap.size := Nat.lt_of_lt_of_le hbx0 HB0c.out.size
  clear hm hbc hnb HNMs HNLs hna x0 x1 x2 x3 x4 x5 x6 x7 x8 x9
  have x1 : Wc.cell? ⟨bx, 1, none⟩ = some (.slice A1 n1 c1) := (HCX.out Wc HB0c.out).cell 1
  have x2 : Wc.cell? ⟨bx, 2, none⟩ = some (.slice A2 n2 c2) := (HCX.out Wc HB0c.out).cell 2
  have hne1 : ((na : Int) != (na : Int)) = false := by simp
  have hne2 : (nb != nb) = false := by simp
  go_wp2_with fail
  refine wp_region_noPanic ?_
  refine wp_region_held_drew (S := (fun W => W.cell? ⟨bx, 1, none⟩ = some (.slice A1 n1 c1) ∧ W.cell? ⟨bx, 2, none⟩ = some (.slice A2 n2 c2))) (by kernel_rfl) ⟨x1, x2⟩ (fun hHeld => ?_)
  refine wpAnyH_take (i := 0) (oi := ?oi_1) (v := ?_) ?hi_1 (by kernel_rfl) ?hf_1 (by kernel_rfl) ?hQ_1 ?hy_1 (by assumption) ?_
  case hi_1 => simp only [List.getElem?_toArray, List.getElem?_cons_zero, List.getElem?_cons_succ]; try rfl
  case hf_1 => kernel_rfl
  case hQ_1 => exact fun _ _ _ h => h
  case hy_1 =>
    refine Or.inl ⟨by rfl, ?_⟩
    intro W hSw
    obtain ⟨q0, q1⟩ := hSw
    go_simp
    try with_reducible rfl
  try simp only [Act.put, List.setIfInBounds_toArray, List.set_cons_zero, List.set_cons_succ]
  refine wpAnyH_take (i := 2) (oi := ?oi_2) (v := ?_) ?hi_2 (by kernel_rfl) ?hf_2 (by kernel_rfl) ?hQ_2 ?hy_2 (by assumption) ?_
  case hi_2 => simp only [List.getElem?_toArray, List.getElem?_cons_zero, List.getElem?_cons_succ]; try rfl
  case hf_2 => kernel_rfl
  case hQ_2 => exact fun _ _ _ h => h
  case hy_2 =>
    refine Or.inl ⟨by rfl, ?_⟩
    intro W hSw
    obtain ⟨q0, q1⟩ := hSw
    go_simp
    try with_reducible rfl
  try simp only [Act.put, List.setIfInBounds_toArray, List.set_cons_zero, List.set_cons_succ]
  refine wpAnyH_take (i := 3) (oi := ?oi_3) (v := ?_) ?hi_3 (by kernel_rfl) ?hf_3 (by kernel_rfl) ?hQ_3 ?hy_3 (by assumption) ?_
  case hi_3 => simp only [List.getElem?_toArray, List.getElem?_cons_zero, List.getElem?_cons_succ]; try rfl
  case hf_3 => kernel_rfl
  case hQ_3 => exact fun _ _ _ h => h
  case hy_3 =>
    refine Or.inl ⟨by rfl, ?_⟩
    intro W hSw
    obtain ⟨q0, q1⟩ := hSw
    go_simp
    try with_reducible rfl
  try simp only [Act.put, List.setIfInBounds_toArray, List.set_cons_zero, List.set_cons_succ]
  refine wpAnyH_take (i := 4) (oi := ?oi_4) (v := ?_) ?hi_4 (by kernel_rfl) ?hf_4 (by kernel_rfl) ?hQ_4 ?hy_4 (by assumption) ?_
  case hi_4 => simp only [List.getElem?_toArray, List.getElem?_cons_zero, List.getElem?_cons_succ]; try rfl
  case hf_4 => kernel_rfl
  case hQ_4 => exact fun _ _ _ h => h
  case hy_4 =>
    refine Or.inl ⟨by rfl, ?_⟩
    intro W hSw
    obtain ⟨q0, q1⟩ := hSw
    go_simp
    try with_reducible rfl
  try simp only [Act.put, List.setIfInBounds_toArray, List.set_cons_zero, List.set_cons_succ]
  refine wpAnyH_take (i := 5) (oi := ?oi_5) (v := ?_) ?hi_5 (by kernel_rfl) ?hf_5 (by kernel_rfl) ?hQ_5 ?hy_5 (by assumption) ?_
  case hi_5 => simp only [List.getElem?_toArray, List.getElem?_cons_zero, List.getElem?_cons_succ]; try rfl
  case hf_5 => kernel_rfl
  case hQ_5 => exact fun _ _ _ h => h
  case hy_5 =>
    refine Or.inl ⟨by rfl, ?_⟩
    intro W hSw
    obtain ⟨q0, q1⟩ := hSw
    go_simp
    try with_reducible rfl
  try simp only [Act.put, List.setIfInBounds_toArray, List.set_cons_zero, List.set_cons_succ]
  refine wpAnyH_take (i := 6) (oi := ?oi_6) (v := ?_) ?hi_6 (by kernel_rfl) ?hf_6 (by kernel_rfl) ?hQ_6 ?hy_6 (by assumption) ?_
  case hi_6 => simp only [List.getElem?_toArray, List.getElem?_cons_zero, List.getElem?_cons_succ]; try rfl
  case hf_6 => kernel_rfl
  case hQ_6 => exact fun _ _ _ h => h
  case hy_6 =>
    refine Or.inl ⟨by rfl, ?_⟩
    intro W hSw
    obtain ⟨q0, q1⟩ := hSw
    go_simp
    try with_reducible rfl
  try simp only [Act.put, List.setIfInBounds_toArray, List.set_cons_zero, List.set_cons_succ]
  refine wpAnyH_take (i := 7) (oi := ?oi_7) (v := ?_) ?hi_7 (by kernel_rfl) ?hf_7 (by kernel_rfl) ?hQ_7 ?hy_7 (by assumption) ?_
  case hi_7 => simp only [List.getElem?_toArray, List.getElem?_cons_zero, List.getElem?_cons_succ]; try rfl
  case hf_7 => kernel_rfl
  case hQ_7 => exact fun _ _ _ h => h
  case hy_7 =>
    refine Or.inl ⟨by rfl, ?_⟩
    intro W hSw
    obtain ⟨q0, q1⟩ := hSw
    go_simp
    try with_reducible rfl
  try simp only [Act.put, List.setIfInBounds_toArray, List.set_cons_zero, List.set_cons_succ]
  refine wpAnyH_take (i := 8) (oi := ?oi_8) (v := ?_) ?hi_8 (by kernel_rfl) ?hf_8 (by kernel_rfl) ?hQ_8 ?hy_8 (by assumption) ?_
  case hi_8 => simp only [List.getElem?_toArray, List.getElem?_cons_zero, List.getElem?_cons_succ]; try rfl
  case hf_8 => kernel_rfl
  case hQ_8 => exact fun _ _ _ h => h
  case hy_8 =>
    refine Or.inl ⟨by rfl, ?_⟩
    intro W hSw
    obtain ⟨q0, q1⟩ := hSw
    go_simp
    try with_reducible rfl
  try simp only [Act.put, List.setIfInBounds_toArray, List.set_cons_zero, List.set_cons_succ]
  refine wpAnyH_ready (rs := [1]) (by kernel_rfl) (by simp) ?_
  refine AllReadyH.cons (o := ?oi_9) ?hi_9 (fun K hK => ?_) AllReadyH.nil
  case hi_9 => simp only [List.getElem?_toArray, List.getElem?_cons_zero, List.getElem?_cons_succ]; try rfl
  go_simp
  (go_at_call 10
   (with_reducible refine (HCT.out _ HBd.out).mono ?_)
   rintro e w5 ⟨rfl, hb5⟩
   have HB5 := Lib.hid (HBd.out.trans (hb5.mono HBd.out.size))
   have hk5 : w5.cell? ⟨bx, 1, none⟩ = some (.slice A1 n1 c1) ∧ w5.cell? ⟨bx, 2, none⟩ = some (.slice A2 n2 c2) := ⟨(hb5.cell (p := ⟨bx, 1, none⟩) hbd).trans x1, (hb5.cell (p := ⟨bx, 2, none⟩) hbd).trans x2⟩
   have HK5 := Lib.hid hk5
   clear hb5 hk5)
  refine hK.out _ _ HK5.out (fun hHeld => ?_)
  clear hK K
  try simp only [Act.put, List.setIfInBounds_toArray, List.set_cons_zero, List.set_cons_succ]
  refine wpAnyH_take (i := 9) (oi := ?oi_10) (v := ?_) ?hi_10 (by kernel_rfl) ?hf_10 (by kernel_rfl) ?hQ_10 ?hy_10 (by assumption) ?_
  case hi_10 => simp only [List.getElem?_toArray, List.getElem?_cons_zero, List.getElem?_cons_succ]; try rfl
  case hf_10 => kernel_rfl
  case hQ_10 => exact fun _ _ _ h => h
  case hy_10 =>
    refine Or.inl ⟨by rfl, ?_⟩
    intro W hSw
    obtain ⟨q0, q1⟩ := hSw
    go_simp
    try with_reducible rfl
  try simp only [Act.put, List.setIfInBounds_toArray, List.set_cons_zero, List.set_cons_succ]
  refine wpAnyH_take (i := 10) (oi := ?oi_11) (v := ?_) ?hi_11 (by kernel_rfl) ?hf_11 (by kernel_rfl) ?hQ_11 ?hy_11 (by assumption) ?_
  case hi_11 => simp only [List.getElem?_toArray, List.getElem?_cons_zero, List.getElem?_cons_succ]; try rfl
  case hf_11 => kernel_rfl
  case hQ_11 => exact fun _ _ _ h => h
  case hy_11 =>
    refine Or.inl ⟨by rfl, ?_⟩
    intro W hSw
    obtain ⟨q0, q1⟩ := hSw
    go_simp
    try with_reducible rfl
  try simp only [Act.put, List.setIfInBounds_toArray, List.set_cons_zero, List.set_cons_succ]
  refine wpAnyH_take (i := 11) (oi := ?oi_12) (v := ?_) ?hi_12 (by kernel_rfl) ?hf_12 (by kernel_rfl) ?hQ_12 ?hy_12 (by assumption) ?_
  case hi_12 => simp only [List.getElem?_toArray, List.getElem?_cons_zero, List.getElem?_cons_succ]; try rfl
  case hf_12 => kernel_rfl
  case hQ_12 => exact fun _ _ _ h => h
  case hy_12 =>
    refine Or.inl ⟨by rfl, ?_⟩
    intro W hSw
    obtain ⟨q0, q1⟩ := hSw
    go_simp
    try with_reducible rfl
  try simp only [Act.put, List.setIfInBounds_toArray, List.set_cons_zero, List.set_cons_succ]
  refine wpAnyH_take (i := 13) (oi := ?oi_13) (v := ?_) ?hi_13 (by kernel_rfl) ?hf_13 (by kernel_rfl) ?hQ_13 ?hy_13 (by assumption) ?_
  case hi_13 => simp only [List.getElem?_toArray, List.getElem?_cons_zero, List.getElem?_cons_succ]; try rfl
  case hf_13 => kernel_rfl
  case hQ_13 => exact fun _ _ _ h => h
  case hy_13 =>
    refine Or.inl ⟨by rfl, ?_⟩
    intro W hSw
    obtain ⟨q0, q1⟩ := hSw
    go_simp
    try with_reducible rfl
  try simp only [Act.put, List.setIfInBounds_toArray, List.set_cons_zero, List.set_cons_succ]
  refine wpAnyH_ready (rs := [12]) (by kernel_rfl) (by simp) ?_
  refine AllReadyH.cons (o := ?oi_14) ?hi_14 (fun K hK => ?_) AllReadyH.nil
  case hi_14 => simp only [List.getElem?_toArray, List.getElem?_cons_zero, List.getElem?_cons_succ]; try rfl
  go_simp
  (go_at_call 11
   (with_reducible refine (HNM.out _).mono ?_)
   rintro e w6 ⟨rfl, rfl⟩)
  refine hK.out _ _ HK5.out (fun hHeld => ?_)
  clear hK K
  try simp only [Act.put, List.setIfInBounds_toArray, List.set_cons_zero, List.set_cons_succ]
  refine wpAnyH_ready (rs := [14]) (by kernel_rfl) (by simp) ?_
  refine AllReadyH.cons (o := ?oi_15) ?hi_15 (fun K hK => ?_) AllReadyH.nil
  case hi_15 => simp only [List.getElem?_toArray, List.getElem?_cons_zero, List.getElem?_cons_succ]; try rfl
  go_simp
  (go_at_call 12
   (with_reducible refine (HNL.out _).mono ?_)
   rintro e w6 ⟨rfl, rfl⟩)
  refine hK.out _ _ HK5.out (fun hHeld => ?_)
  clear hK K
  try simp only [Act.put, List.setIfInBounds_toArray, List.set_cons_zero, List.set_cons_succ]
  refine wpAnyH_take (i := 15) (oi := ?oi_16) (v := ?_) ?hi_16 (by kernel_rfl) ?hf_16 (by kernel_rfl) ?hQ_16 ?hy_16 (by assumption) ?_
  case hi_16 => simp only [List.getElem?_toArray, List.getElem?_cons_zero, List.getElem?_cons_succ]; try rfl
  case hf_16 => kernel_rfl
  case hQ_16 => exact fun _ _ _ h => h
  case hy_16 =>
    refine Or.inl ⟨by rfl, ?_⟩
    intro W hSw
    obtain ⟨q0, q1⟩ := hSw
    go_simp
    try with_reducible rfl
  try simp only [Act.put, List.setIfInBounds_toArray, List.set_cons_zero, List.set_cons_succ]
  refine wpAnyH_take (i := 16) (oi := ?oi_17) (v := ?_) ?hi_17 (by kernel_rfl) ?hf_17 (by kernel_rfl) ?hQ_17 ?hy_17 (by assumption) ?_
  case hi_17 => simp only [List.getElem?_toArray, List.getElem?_cons_zero, List.getElem?_cons_succ]; try rfl
  case hf_17 => kernel_rfl
  case hQ_17 => exact fun _ _ _ h => h
  case hy_17 =>
    refine Or.inl ⟨by rfl, ?_⟩
    intro W hSw
    obtain ⟨q0, q1⟩ := hSw
    go_simp
    try with_reducible rfl
  try simp only [Act.put, List.setIfInBounds_toArray, List.set_cons_zero, List.set_cons_succ]
  refine wpAnyH_done (by kernel_rfl) ?_ _
  refine NoPanic.normal ?_
  clear hHeld
  clear x1 x2 hw12 hne2
  have HBe := Lib.hid (HBc.out.trans (HB5.out.mono HBc.out.size))
  have HB0e := Lib.hid (HB0c.out.trans (HB5.out.mono HB0c.out.size))
  have x0 : w5.cell? ⟨bx, 0, none⟩ = some (.slice A0 n0 c0) := (HCX.out w5 HB0e.out).cell 0
  have x1 : w5.cell? ⟨bx, 1, none⟩ = some (.slice A1 n1 c1) := (HCX.out w5 HB0e.out).cell 1
  have x2 : w5.cell? ⟨bx, 2, none⟩ = some (.slice A2 n2 c2) := (HCX.out w5 HB0e.out).cell 2
  have x3 : w5.cell? ⟨bx, 3, none⟩ = some (.int .i64 tab) := (HCX.out w5 HB0e.out).cell 3
  have x4 : w5.cell? ⟨bx, 4, none⟩ = some (.slice A4 n4 c4) := (HCX.out w5 HB0e.out).cell 4
  have x5 : w5.cell? ⟨bx, 5, none⟩ = some (.slice A5 n5 c5) := (HCX.out w5 HB0e.out).cell 5
  have x6 : w5.cell? ⟨bx, 6, none⟩ = some (.slice A6 n6 c6) := (HCX.out w5 HB0e.out).cell 6
  have x7 : w5.cell? ⟨bx, 7, none⟩ = some (.int .i64 start) := (HCX.out w5 HB0e.out).cell 7
  have x8 : w5.cell? ⟨bx, 8, none⟩ = some (.slice A8 n8 c8) := (HCX.out w5 HB0e.out).cell 8
  have x9 : w5.cell? ⟨bx, 9, none⟩ = some (.slice A9 n9 c9) := (HCX.out w5 HB0e.out).cell 9
  go_wp2_with fail
  with_reducible refine (HUN.out HSMALL.out _ HBe.out).mono ?_
  intro e w7 hu
  unfold UnP at hu
  obtain ⟨hb7, s7, r7, rfl, hr7⟩ := hu
  have HBf := Lib.hid (HBe.out.trans (hb7.mono HBe.out.size))
  have HB0f := Lib.hid (HB0e.out.trans (hb7.mono HB0e.out.size))
  have HBcf := Lib.hid (HB5.out.trans (hb7.mono HB5.out.size))
  have HR7 := Lib.hid hr7
  clear hb7 hr7 x0 x1 x2 x3 x4 x5 x6 x7 x8 x9
  by_cases hz7 : r7 = 0
  case neg =>
    have hz8 : (r7 != 0) = true := by simp [hz7]
    go_wp2
    go_ret
    exact ⟨rfl, HBf.out⟩
  subst hz7
  have HFIT := Lib.hid (HR7.out rfl)
  clear HR7
  have HRX : Hid (∀ W, Below w.heap.size w W → Row 3 ExAt W A6 n6 c6 X6) := Lib.hid (fun W hW => (HX.out.below hW).r6)
  by_cases hin : 0 ≤ f ∧ f < (na : Int)
  case neg =>
    have HSN := Lib.hid (Sig_no g n1 n2 f w7 (by have := HNA.out; omega) (fun W hW => by have := HCT.out W (HBcf.out.trans (hW.mono HBcf.out.size)); rw [HNA.out] at this; exact this))
    have HIN : Hid (∀ W, Calls Try.prog 15 #[.int .i64 f, .int .i64 (na : Int)] W fun e w' => e = .returned (.bool false) ∧ W = w') := Lib.hid (fun W => by
      have h := in_any f (na : Int) W
      rw [show (decide (0 ≤ f) && decide (f < (na : Int))) = false from by simp; omega] at h
      exact h)
    clear hin
    go_wp2_with fail
    with_reducible refine HSN.out.mono ?_
    rintro e w8 ⟨rfl, hb8⟩
    have HBg := Lib.hid ((HBf.out.trans (hb8.mono HBf.out.size)).alloc (HBf.out.trans (hb8.mono HBf.out.size)).size (.cells #[.slice none 0 0, .slice none 0 0] 42))
    have HB0g := Lib.hid ((HB0f.out.trans (hb8.mono HB0f.out.size)).alloc (HB0f.out.trans (hb8.mono HB0f.out.size)).size (.cells #[.slice none 0 0, .slice none 0 0] 42))
    have HBcg := Lib.hid ((HBcf.out.trans (hb8.mono HBcf.out.size)).alloc (HBcf.out.trans (hb8.mono HBcf.out.size)).size (.cells #[.slice none 0 0, .slice none 0 0] 42))
    clear hb8
    go_upto_if 67 with (first
      | (go_at_call 10; (with_reducible refine (HCT.out _ HBcg.out).mono ?_); rintro e w9 ⟨rfl, hb9⟩
         have HBh := Lib.hid (HBg.out.trans (hb9.mono HBg.out.size))
         have HB0h := Lib.hid (HB0g.out.trans (hb9.mono HB0g.out.size))
         have HBch := Lib.hid (HBcg.out.trans (hb9.mono HBcg.out.size))
         clear hb9)
      | (go_at_call 15; (with_reducible refine (HIN.out _).mono ?_); rintro e w10 ⟨rfl, rfl⟩))
    rename_i ha
    refine wp_cond_false rfl (wp_skip ?_)
    refine ha _ _ ?_
    clear ha
    cases hfx : exF X6 s n6 0 with
    | none =>
      exact mf_none hfx HBh.out ((HCX.out _ HB0h.out).cell 6) (Nat.lt_of_lt_of_le hbx0 HB0h.out.size) (HRX.out _ HBh.out) (by omega) (Find_ok g _ A6 n6 c6 X6 s (by omega) rfl _ (HMD.out.blk.below HBch.out HMD.out.blk.lt) (HRX.out _ HBh.out)) _ _ _ _ _ _ _ _ _ _ _ _ _ _ _ _ _ _ _ _ _ _ _ _ _ _ _ _ _ _ _ _ _ _ _ _ _ _ _ _ _ _ _ _ _ _ _ _ _ _ _ _ _ _ _ _ _ _ _ _ _ _ _ _ _ _ _ _ _ _ _ _ _ _ _ _ _ _ _ _ _ _ _ _ _ _ _ _ _ _ _ _ _ _ _ _ _ _ _ _ _ _ _ _ _ _ _ _ _ _ _ _ _ _ _ _
    | some kk =>
      exact mf_some hfx HBh.out ((HCX.out _ HB0h.out).cell 6) (Nat.lt_of_lt_of_le hbx0 HB0h.out.size) (HRX.out _ HBh.out) (by omega) (Find_ok g _ A6 n6 c6 X6 s (by omega) rfl _ (HMD.out.blk.below HBch.out HMD.out.blk.lt) (HRX.out _ HBh.out)) _ _ _ _ _ _ _ _ _ _ _ _ _ _ _ _ _ _ _ _ _ _ _ _ _ _ _ _ _ _ _ _ _ _ _ _ _ _ _ _ _ _ _ _ _ _ _ _ _ _ _ _ _ _ _ _ _ _ _ _ _ _ _ _ _ _ _ _ _ _ _ _ _ _ _ _ _ _ _ _ _ _ _ _ _ _ _ _ _ _ _ _ _ _ _ _ _ _ _ _ _ _ _ _ _ _ _ _ _ _ _ _ _ _ _ _
  obtain ⟨fnn, rfl⟩ := Int.eq_ofNat_of_zero_le hin.1
  have hfn : fnn < n1 + n2 := by have := HNA.out; omega
  have HSG : Hid (∃ q : Nat, sgOf ⟨⟨A0, n0, c0⟩, X0, ⟨A1, n1, c1⟩, X1, ⟨A2, n2, c2⟩, X2, tab, ⟨A4, n4, c4⟩, X4, ⟨A5, n5, c5⟩, X5, ⟨A6, n6, c6⟩, X6, start, ⟨A8, n8, c8⟩, X8, ⟨A9, n9, c9⟩, X9⟩ fnn = (q : Int) ∧ q < n0) := Lib.hid (by
    unfold sgOf
    dsimp only
    split
    · rename_i hlt
      have h : 0 ≤ (X1 fnn).sg ∧ (X1 fnn).sg < (n0 : Int) := ⟨(HFIT.out.l1 fnn hlt).2.2.1, (HFIT.out.l1 fnn hlt).2.2.2⟩
      exact ⟨((X1 fnn).sg).toNat, by omega, by omega⟩
    · have h : 0 ≤ (X2 (fnn - n1)).sg ∧ (X2 (fnn - n1)).sg < (n0 : Int) := HFIT.out.l2 (fnn - n1) (by show fnn - n1 < n2; omega)
      exact ⟨((X2 (fnn - n1)).sg).toNat, by omega, by omega⟩)
  obtain ⟨q, hq, hq0⟩ := HSG.out
  have hqd : (X0 q).P.length + (X0 q).R.length ≤ 60 := HSMALL.out.l0 q hq0
  have HP256 : Hid ((∀ x ∈ (X0 q).P, x < 256) ∧ (∀ x ∈ (X0 q).R, x < 256)) := Lib.hid (by
    obtain ⟨b, off, _, _, hat⟩ := HX.out.r0.2.2 (by show 0 < n0; omega)
    obtain ⟨_, _, _, _, _, _, hy1, hy2⟩ := hat q hq0
    exact ⟨hy1.2.1, hy2.2.1⟩)
  have HSQ : Hid (Calls Try.prog 14 #[.pointer (some ⟨g, 0, none⟩), .int .i64 (fnn : Nat)] w7 (SiP (X0 q).P (X0 q).R w7)) := Lib.hid (HSI.out w7 HBf.out _ g _ _ SP SR LV IV S (HMD.out.kept HBcf.out) fnn q hfn (by omega) (by omega) (by omega) hq hq0 (by show (X0 q).P.length ≤ 1000; omega) (by show (X0 q).R.length ≤ 1000; omega))
  have HLQ : Hid (∀ W, Below w.heap.size w W → Calls Try.prog 16 #[.agg #[.slice A0 n0 c0, .slice A1 n1 c1, .slice A2 n2 c2, .int .i64 tab, .slice A4 n4 c4, .slice A5 n5 c5, .slice A6 n6 c6, .int .i64 start, .slice A8 n8 c8, .slice A9 n9 c9], .int .i64 (fnn : Nat)] W (LSiP (X0 q) W)) := Lib.hid (fun W hW => HLS.out W hW fnn q hfn (by omega) (by omega) hq hq0)
  have HIN : Hid (∀ W, Calls Try.prog 15 #[.int .i64 (fnn : Nat), .int .i64 (na : Int)] W fun e w' => e = .returned (.bool true) ∧ W = w') := Lib.hid (fun W => by
    have h := in_any (fnn : Nat) (na : Int) W
    rw [show (decide ((0 : Int) ≤ (fnn : Nat)) && decide (((fnn : Nat) : Int) < (na : Int))) = true from by simp; omega] at h
    exact h)
  clear hq HSG hin hf9
  unfold SiP at HSQ
  unfold LSiP at HLQ
  generalize (X0 q).P = LP at *
  generalize (X0 q).R = LR at *
  obtain ⟨p, hp⟩ : ∃ p, p = LP.length := ⟨_, rfl⟩
  obtain ⟨r, hr⟩ : ∃ p, p = LR.length := ⟨_, rfl⟩
  rw [← hp] at hqd HSQ HLQ
  rw [← hr] at hqd HSQ HLQ
  have HPR := Lib.hid (And.intro hp hr)
  clear hp hr
  go_wp2_with fail
  with_reducible refine HSQ.out.mono ?_
  intro e w8 hsp
  obtain ⟨hb8, B1, b1, B2, b2, rfl, ho1, ho2⟩ := hsp
  obtain ⟨_, _, e1, hy1⟩ := byt_own76 ho1 HPR.out.1.symm HP256.out.1 (by unfold maxLen; omega)
  obtain ⟨_, _, e2, hy2⟩ := byt_own76 ho2 HPR.out.2.symm HP256.out.2 (by unfold maxLen; omega)
  cases e1
  cases e2
  have hpc : p ≤ b1 ∧ b1 ≤ 9223372036854775807 := ⟨hy1.2.2.1, by have := hy1.2.2.2.1; unfold maxLen at this; omega⟩
  have hrc : r ≤ b2 ∧ b2 ≤ 9223372036854775807 := ⟨hy2.2.2.1, by have := hy2.2.2.2.1; unfold maxLen at this; omega⟩
  obtain ⟨ws, hws⟩ : ∃ ws, ws = w8.alloc (.cells #[.slice B1 p b1, .slice B2 r b2] 42) := ⟨_, rfl⟩
  have hb8s : Below w8.heap.size w8 ws := by rw [hws]; exact (Below.refl _ _).alloc (Nat.le_refl _) _
  have hb7s : Below w7.heap.size w7 ws := hb8.trans (hb8s.mono hb8.size)
  have HBg := Lib.hid (HBf.out.trans (hb7s.mono HBf.out.size))
  have HB0g := Lib.hid (HB0f.out.trans (hb7s.mono HB0f.out.size))
  have HBcg := Lib.hid (HBcf.out.trans (hb7s.mono HBcf.out.size))
  have HYs := Lib.hid (And.intro (hy1.below hb8s) (hy2.below hb8s))
  have hsb0 : Blk ws w8.heap.size 42 #[.slice B1 p b1, .slice B2 r b2] := by rw [hws]; exact Blk.new w8 42 _
  obtain ⟨sb, hsb⟩ : ∃ sb, sb = w8.heap.size := ⟨_, rfl⟩
  rw [← hsb] at hsb0
  have HSB := Lib.hid hsb0
  have HWS := Lib.hid (And.intro hws hsb)
  clear ho1 ho2 hy1 hy2 hb8 hb8s hb7s hsb0 hws hsb HSQ
  go_upto_region 10 with fail
  rw [← HWS.out.1, ← HWS.out.2]
  go_upto_if 67 with (first
    | (go_at_call 10; (with_reducible refine (HCT.out _ HBcg.out).mono ?_); rintro e w9 ⟨rfl, hb9⟩
       have HBh := Lib.hid (HBg.out.trans (hb9.mono HBg.out.size))
       have HB0h := Lib.hid (HB0g.out.trans (hb9.mono HB0g.out.size))
       have HBch := Lib.hid (HBcg.out.trans (hb9.mono HBcg.out.size))
       have HYh := Lib.hid (And.intro (HYs.out.1.below hb9) (HYs.out.2.below hb9))
       have HSBh := Lib.hid (HSB.out.below hb9 HSB.out.lt)
       clear hb9)
    | (go_at_call 15; (with_reducible refine (HIN.out _).mono ?_); rintro e w10 ⟨rfl, rfl⟩))
  have x0 : w9.cell? ⟨bx, 0, none⟩ = some (.slice A0 n0 c0) := (HCX.out w9 HB0h.out).cell 0
  have x1 : w9.cell? ⟨bx, 1, none⟩ = some (.slice A1 n1 c1) := (HCX.out w9 HB0h.out).cell 1
  have x2 : w9.cell? ⟨bx, 2, none⟩ = some (.slice A2 n2 c2) := (HCX.out w9 HB0h.out).cell 2
  have x3 : w9.cell? ⟨bx, 3, none⟩ = some (.int .i64 tab) := (HCX.out w9 HB0h.out).cell 3
  have x4 : w9.cell? ⟨bx, 4, none⟩ = some (.slice A4 n4 c4) := (HCX.out w9 HB0h.out).cell 4
  have x5 : w9.cell? ⟨bx, 5, none⟩ = some (.slice A5 n5 c5) := (HCX.out w9 HB0h.out).cell 5
  have x6 : w9.cell? ⟨bx, 6, none⟩ = some (.slice A6 n6 c6) := (HCX.out w9 HB0h.out).cell 6
  have x7 : w9.cell? ⟨bx, 7, none⟩ = some (.int .i64 start) := (HCX.out w9 HB0h.out).cell 7
  have x8 : w9.cell? ⟨bx, 8, none⟩ = some (.slice A8 n8 c8) := (HCX.out w9 HB0h.out).cell 8
  have x9 : w9.cell? ⟨bx, 9, none⟩ = some (.slice A9 n9 c9) := (HCX.out w9 HB0h.out).cell 9
  rename_i ha
  refine wp_cond_true rfl ?_
  go_wp2_with fail
  with_reducible refine (HLQ.out _ HBh.out).mono ?_
  intro e w10 hl
  obtain ⟨hb10, P1, p1, R1, r1, rfl, hyP, hyR⟩ := hl
  have hpp : p ≤ p1 ∧ p1 ≤ 9223372036854775807 := ⟨hyP.2.2.1, by have := hyP.2.2.2.1; unfold maxLen at this; omega⟩
  have hrr : r ≤ r1 ∧ r1 ≤ 9223372036854775807 := ⟨hyR.2.2.1, by have := hyR.2.2.2.1; unfold maxLen at this; omega⟩
  obtain ⟨wy, hwy⟩ : ∃ wy, wy = w10.alloc (.cells #[.slice P1 p p1, .slice R1 r r1] 48) := ⟨_, rfl⟩
  have hb10y : Below w10.heap.size w10 wy := by rw [hwy]; exact (Below.refl _ _).alloc (Nat.le_refl _) _
  have hb9y : Below w9.heap.size w9 wy := hb10.trans (hb10y.mono hb10.size)
  have HBi := Lib.hid (HBh.out.trans (hb9y.mono HBh.out.size))
  have HB0i := Lib.hid (HB0h.out.trans (hb9y.mono HB0h.out.size))
  have HBci := Lib.hid (HBch.out.trans (hb9y.mono HBch.out.size))
  have HYi := Lib.hid (And.intro (HYh.out.1.below hb9y) (HYh.out.2.below hb9y))
  have HYP := Lib.hid (And.intro (hyP.below hb10y) (hyR.below hb10y))
  have HSBi := Lib.hid (HSBh.out.below hb9y HSBh.out.lt)
  have hyb0 : Blk wy w10.heap.size 48 #[.slice P1 p p1, .slice R1 r r1] := by rw [hwy]; exact Blk.new w10 48 _
  obtain ⟨yb, hyb⟩ : ∃ yb, yb = w10.heap.size := ⟨_, rfl⟩
  rw [← hyb] at hyb0
  have HYB := Lib.hid hyb0
  have HWY := Lib.hid (And.intro hwy hyb)
  have HKW : Hid (∀ W, Below wy.heap.size wy W → W.cell? ⟨sb, 0, none⟩ = some (.slice B1 p b1) ∧ W.cell? ⟨sb, 1, none⟩ = some (.slice B2 r b2) ∧ W.cell? ⟨yb, 0, none⟩ = some (.slice P1 p p1) ∧ W.cell? ⟨yb, 1, none⟩ = some (.slice R1 r r1)) := Lib.hid (fun W hW => ⟨(HSBi.out.below hW HSBi.out.lt).cell 0, (HSBi.out.below hW HSBi.out.lt).cell 1, (HYB.out.below hW HYB.out.lt).cell 0, (HYB.out.below hW HYB.out.lt).cell 1⟩)
  clear hyP hyR hb10 hb10y hb9y hyb0 hwy hyb x0 x1 x2 x3 x4 x5 x6 x7 x8 x9 HLQ
  go_upto_region 14 with fail
  rw [← HWY.out.1, ← HWY.out.2]
  have HBd2 : Hid (Below wy.heap.size wy wy.drew) := Lib.hid (below_drew (Below.refl _ _))
  have hkk := HKW.out wy (Below.refl _ _)
  refine wp_region_noPanic ?_
  refine wp_region_held_drew (S := (fun W => W.cell? ⟨sb, 0, none⟩ = some (.slice B1 p b1) ∧ W.cell? ⟨sb, 1, none⟩ = some (.slice B2 r b2) ∧ W.cell? ⟨yb, 0, none⟩ = some (.slice P1 p p1) ∧ W.cell? ⟨yb, 1, none⟩ = some (.slice R1 r r1))) (by kernel_rfl) ⟨hkk.1, hkk.2.1, hkk.2.2.1, hkk.2.2.2⟩ (fun hHeld => ?_)
  refine wpAnyH_take (i := 0) (oi := ?oi_18) (v := ?_) ?hi_18 (by kernel_rfl) ?hf_18 (by kernel_rfl) ?hQ_18 ?hy_18 (by assumption) ?_
  case hi_18 => simp only [List.getElem?_toArray, List.getElem?_cons_zero, List.getElem?_cons_succ]; try rfl
  case hf_18 => kernel_rfl
  case hQ_18 => exact fun _ _ _ h => h
  case hy_18 =>
    refine Or.inl ⟨by rfl, ?_⟩
    intro W hSw
    obtain ⟨q0, q1, q2, q3⟩ := hSw
    go_simp
    try with_reducible rfl
  try simp only [Act.put, List.setIfInBounds_toArray, List.set_cons_zero, List.set_cons_succ]
  refine wpAnyH_take (i := 1) (oi := ?oi_19) (v := ?_) ?hi_19 (by kernel_rfl) ?hf_19 (by kernel_rfl) ?hQ_19 ?hy_19 (by assumption) ?_
  case hi_19 => simp only [List.getElem?_toArray, List.getElem?_cons_zero, List.getElem?_cons_succ]; try rfl
  case hf_19 => kernel_rfl
  case hQ_19 => exact fun _ _ _ h => h
  case hy_19 =>
    refine Or.inl ⟨by rfl, ?_⟩
    intro W hSw
    obtain ⟨q0, q1, q2, q3⟩ := hSw
    go_simp
    try with_reducible rfl
  try simp only [Act.put, List.setIfInBounds_toArray, List.set_cons_zero, List.set_cons_succ]
  refine wpAnyH_take (i := 2) (oi := ?oi_20) (v := ?_) ?hi_20 (by kernel_rfl) ?hf_20 (by kernel_rfl) ?hQ_20 ?hy_20 (by assumption) ?_
  case hi_20 => simp only [List.getElem?_toArray, List.getElem?_cons_zero, List.getElem?_cons_succ]; try rfl
  case hf_20 => kernel_rfl
  case hQ_20 => exact fun _ _ _ h => h
  case hy_20 =>
    refine Or.inl ⟨by rfl, ?_⟩
    intro W hSw
    obtain ⟨q0, q1, q2, q3⟩ := hSw
    go_simp
    try with_reducible rfl
  try simp only [Act.put, List.setIfInBounds_toArray, List.set_cons_zero, List.set_cons_succ]
  refine wpAnyH_take (i := 4) (oi := ?oi_21) (v := ?_) ?hi_21 (by kernel_rfl) ?hf_21 (by kernel_rfl) ?hQ_21 ?hy_21 (by assumption) ?_
  case hi_21 => simp only [List.getElem?_toArray, List.getElem?_cons_zero, List.getElem?_cons_succ]; try rfl
  case hf_21 => kernel_rfl
  case hQ_21 => exact fun _ _ _ h => h
  case hy_21 =>
    refine Or.inl ⟨by rfl, ?_⟩
    intro W hSw
    obtain ⟨q0, q1, q2, q3⟩ := hSw
    go_simp
    try with_reducible rfl
  try simp only [Act.put, List.setIfInBounds_toArray, List.set_cons_zero, List.set_cons_succ]
  refine wpAnyH_take (i := 5) (oi := ?oi_22) (v := ?_) ?hi_22 (by kernel_rfl) ?hf_22 (by kernel_rfl) ?hQ_22 ?hy_22 (by assumption) ?_
  case hi_22 => simp only [List.getElem?_toArray, List.getElem?_cons_zero, List.getElem?_cons_succ]; try rfl
  case hf_22 => kernel_rfl
  case hQ_22 => exact fun _ _ _ h => h
  case hy_22 =>
    refine Or.inl ⟨by rfl, ?_⟩
    intro W hSw
    obtain ⟨q0, q1, q2, q3⟩ := hSw
    go_simp
    try with_reducible rfl
  try simp only [Act.put, List.setIfInBounds_toArray, List.set_cons_zero, List.set_cons_succ]
  refine wpAnyH_ready (rs := [3]) (by kernel_rfl) (by simp) ?_
  refine AllReadyH.cons (o := ?oi_23) ?hi_23 (fun K hK => ?_) AllReadyH.nil
  case hi_23 => simp only [List.getElem?_toArray, List.getElem?_cons_zero, List.getElem?_cons_succ]; try rfl
  go_simp
  (go_at_call 18
   (with_reducible refine (To9_ok P1 p p1 LP (by omega) _ (HYP.out.1.below HBd2.out)).mono ?_)
   intro e wb hl
   unfold LPost at hl
   obtain ⟨v3, rfl, ho3, hb3⟩ := hl
   rw [← HPR.out.1] at ho3
   obtain ⟨A3, c3, rfl, hy3⟩ := byt_own76 ho3 HPR.out.1.symm HP256.out.1 (by unfold maxLen; omega)
   have HBb2 := Lib.hid (HBd2.out.trans (hb3.mono HBd2.out.size))
   have HY3 := Lib.hid hy3
   have hk3 := HKW.out wb HBb2.out
   clear ho3 hb3 hy3)
  refine hK.out _ _ hk3 (fun hHeld => ?_)
  clear hK K
  try simp only [Act.put, List.setIfInBounds_toArray, List.set_cons_zero, List.set_cons_succ]
  refine wpAnyH_ready (rs := [6]) (by kernel_rfl) (by simp) ?_
  refine AllReadyH.cons (o := ?oi_24) ?hi_24 (fun K hK => ?_) AllReadyH.nil
  case hi_24 => simp only [List.getElem?_toArray, List.getElem?_cons_zero, List.getElem?_cons_succ]; try rfl
  go_simp
  (go_at_call 18
   (with_reducible refine (To9_ok R1 r r1 LR (by omega) _ (HYP.out.2.below HBb2.out)).mono ?_)
   intro e wb2 hl
   unfold LPost at hl
   obtain ⟨v4, rfl, ho4, hb4⟩ := hl
   rw [← HPR.out.2] at ho4
   obtain ⟨A4x, c4x, rfl, hy4⟩ := byt_own76 ho4 HPR.out.2.symm HP256.out.2 (by unfold maxLen; omega)
   have HBb3 := Lib.hid (HBb2.out.trans (hb4.mono HBb2.out.size))
   have HY4 := Lib.hid (And.intro (HY3.out.below hb4) hy4)
   have hk4 := HKW.out wb2 HBb3.out
   clear ho4 hb4 hy4)
  refine hK.out _ _ hk4 (fun hHeld => ?_)
  clear hK K
  try simp only [Act.put, List.setIfInBounds_toArray, List.set_cons_zero, List.set_cons_succ]
  refine wpAnyH_take (i := 7) (oi := ?oi_25) (v := ?_) ?hi_25 (by kernel_rfl) ?hf_25 (by kernel_rfl) ?hQ_25 ?hy_25 (by assumption) ?_
  case hi_25 => simp only [List.getElem?_toArray, List.getElem?_cons_zero, List.getElem?_cons_succ]; try rfl
  case hf_25 => kernel_rfl
  case hQ_25 => exact fun _ _ _ h => h
  case hy_25 =>
    refine Or.inl ⟨by rfl, ?_⟩
    intro W hSw
    obtain ⟨q0, q1, q2, q3⟩ := hSw
    go_simp
    try with_reducible rfl
  try simp only [Act.put, List.setIfInBounds_toArray, List.set_cons_zero, List.set_cons_succ]
  refine wpAnyH_ready (rs := [8]) (by kernel_rfl) (by simp) ?_
  refine AllReadyH.cons (o := ?oi_26) ?hi_26 (fun K hK => ?_) AllReadyH.nil
  case hi_26 => simp only [List.getElem?_toArray, List.getElem?_cons_zero, List.getElem?_cons_succ]; try rfl
  have HSM := Lib.hid (SigSame_ok B1 B2 A3 A4x p r p r b1 b2 c3 c4x LP LR LP LR (by omega) (by omega) (by omega) (by omega) wb2 (HYi.out.1.below HBb3.out) (HYi.out.2.below HBb3.out) HY4.out.1 HY4.out.2)
  simp only [decide_true, Bool.and_self] at HSM
  go_simp
  (go_at_call 17
   (with_reducible refine HSM.out.mono ?_)
   rintro e wz ⟨rfl, hb9⟩
   have HBz := Lib.hid (HBb3.out.trans (hb9.mono HBb3.out.size))
   have hk5 := HKW.out wz HBz.out
   clear hb9)
  refine hK.out _ _ hk5 (fun hHeld => ?_)
  clear hK K
  try simp only [Act.put, List.setIfInBounds_toArray, List.set_cons_zero, List.set_cons_succ]
  refine wpAnyH_take (i := 9) (oi := ?oi_27) (v := ?_) ?hi_27 (by kernel_rfl) ?hf_27 (by kernel_rfl) ?hQ_27 ?hy_27 (by assumption) ?_
  case hi_27 => simp only [List.getElem?_toArray, List.getElem?_cons_zero, List.getElem?_cons_succ]; try rfl
  case hf_27 => kernel_rfl
  case hQ_27 => exact fun _ _ _ h => h
  case hy_27 =>
    refine Or.inl ⟨by rfl, ?_⟩
    intro W hSw
    obtain ⟨q0, q1, q2, q3⟩ := hSw
    go_simp
    try with_reducible rfl
  try simp only [Act.put, List.setIfInBounds_toArray, List.set_cons_zero, List.set_cons_succ]
  refine wpAnyH_done (by kernel_rfl) ?_ _
  refine NoPanic.normal ?_
  clear hHeld
  have HBj := Lib.hid (HBi.out.trans (HBz.out.mono HBi.out.size))
  have HB0j := Lib.hid (HB0i.out.trans (HBz.out.mono HB0i.out.size))
  have HBcj := Lib.hid (HBci.out.trans (HBz.out.mono HBci.out.size))
  go_upto_if 80 with fail
  refine wp_cond_false rfl (wp_skip ?_)
  refine ha _ _ ?_
  clear ha
  cases hfx : exF X6 s n6 0 with
  | none =>
    exact mf_none hfx HBj.out ((HCX.out _ HB0j.out).cell 6) (Nat.lt_of_lt_of_le hbx0 HB0j.out.size) (HRX.out _ HBj.out) (by omega) (Find_ok g _ A6 n6 c6 X6 s (by omega) rfl _ (HMD.out.blk.below HBcj.out HMD.out.blk.lt) (HRX.out _ HBj.out)) _ _ _ _ _ _ _ _ _ _ _ _ _ _ _ _ _ _ _ _ _ _ _ _ _ _ _ _ _ _ _ _ _ _ _ _ _ _ _ _ _ _ _ _ _ _ _ _ _ _ _ _ _ _ _ _ _ _ _ _ _ _ _ _ _ _ _ _ _ _ _ _ _ _ _ _ _ _ _ _ _ _ _ _ _ _ _ _ _ _ _ _ _ _ _ _ _ _ _ _ _ _ _ _ _ _ _ _ _ _ _ _ _ _ _ _
  | some kk =>
    exact mf_some hfx HBj.out ((HCX.out _ HB0j.out).cell 6) (Nat.lt_of_lt_of_le hbx0 HB0j.out.size) (HRX.out _ HBj.out) (by omega) (Find_ok g _ A6 n6 c6 X6 s (by omega) rfl _ (HMD.out.blk.below HBcj.out HMD.out.blk.lt) (HRX.out _ HBj.out)) _ _ _ _ _ _ _ _ _ _ _ _ _ _ _ _ _ _ _ _ _ _ _ _ _ _ _ _ _ _ _ _ _ _ _ _ _ _ _ _ _ _ _ _ _ _ _ _ _ _ _ _ _ _ _ _ _ _ _ _ _ _ _ _ _ _ _ _ _ _ _ _ _ _ _ _ _ _ _ _ _ _ _ _ _ _ _ _ _ _ _ _ _ _ _ _ _ _ _ _ _ _ _ _ _ _ _ _ _ _ _ _ _ _ _ _
end Go.Proofs.Ytackompihengfaa
