/-
  Sig of a module.
-/
import Derived.Test.YtackompihengfaaGe
import Derived.Deep.RegionHeld3
import Derived.Deep.DeepCutAuto
namespace Go.Proofs.Ytackompihengfaa
open Go.RowKit Go.PlainAid
set_option linter.unusedVariables false
set_option linter.unusedSimpArgs false
theorem SgM.at_ {w : World} {B i n c : Nat} {A : Option Addr} {X : Nat → SigT} {SP SR : Nat → Value} (h : SgM w B (.slice A n c) n X SP SR) (hi : i < n) : ∃ g, A = some ⟨g, 0, none⟩ ∧ n ≤ c ∧ c ≤ maxLen ∧ w.cell? ⟨g, i * 2, none⟩ = some (SP i) ∧ w.cell? ⟨g, i * 2 + 1, none⟩ = some (SR i) := by
  obtain ⟨g, cp, e, h5, h6⟩ := own_some h.1 (by omega)
  cases e
  refine ⟨g, rfl, h5, h6, ?_, ?_⟩
  · have h9 := sigC_get SP SR n i 0 _ hi rfl
    rw [Nat.add_zero] at h9
    rw [h.1.cellAt (i * 2) (by omega), h9]
  · rw [h.1.cellAt (i * 2 + 1) (by omega), sigC_get SP SR n i 1 _ hi rfl]
/-- what Sig answers -/
def SiP (P R : List Nat) (w : World) (e : Ending) (w' : World) : Prop := Below w.heap.size w w' ∧ ∃ B d B2 d2, e = .returned (.tuple #[.agg #[.slice B P.length d, .slice B2 R.length d2], .bool true]) ∧ w'.ownsRow w.heap.size 76 1 (.slice B P.length d) P.length (P.map U8) ∧ w'.ownsRow w.heap.size 76 1 (.slice B2 R.length d2) R.length (R.map U8)
set_option maxHeartbeats 4000000 in
set_option maxRecDepth 100000 in
theorem Sig_ok (x : Mt) (B g : Nat) (sv fv : Value) (SP SR LV IV : Nat → Value) (S : Nat → Nat → Value) (f j : Nat) (w : World) (hx : MtAt w x) (hm : MdAt w B g x sv fv SP SR LV IV S) (hf : f < x.s1.n + x.s2.n) (h0 : x.s0.n ≤ 1000) (h1 : x.s1.n ≤ 1000) (h2 : x.s2.n ≤ 1000)
    (hj : sgOf x f = (j : Int)) (hj0 : j < x.s0.n) (hp : (x.X0 j).P.length ≤ 1000) (hr : (x.X0 j).R.length ≤ 1000) :
    Calls Try.prog 14 #[.pointer (some ⟨g, 0, none⟩), .int .i64 (f : Nat)] w (SiP (x.X0 j).P (x.X0 j).R w) := by
  obtain ⟨As, cs, rfl⟩ := own_slice hm.sg.1
  obtain ⟨Af, cf, rfl⟩ := own_slice hm.fn.1
  obtain ⟨gs, rfl, hcs, hcm, _, _⟩ := hm.sg.at_ hj0
  unfold maxLen at hcm
  have hrow := hm.sg.2 j hj0
  obtain ⟨P1, p1, hP1⟩ := own_slice hrow.1
  obtain ⟨R1, r1, hR1⟩ := own_slice hrow.2
  have HX := Lib.hid hx
  have HM := Lib.hid hm
  have HC : Hid (∀ W, Below w.heap.size w W → Calls Try.prog 10 #[.pointer (some ⟨g, 0, none⟩)] W fun e w' => e = .returned (.int .i64 ((x.s1.n + x.s2.n : Nat) : Int)) ∧ Below W.heap.size W w') := Lib.hid (fun W hW => Count_ok g _ _ _ _ _ _ _ h1 h2 rfl rfl W (hm.blk.below hW hm.blk.lt))
  have HN : Hid (∀ W, Below w.heap.size w W → Calls Try.prog 28 #[.pointer (some ⟨g, 0, none⟩), .int .i64 (f : Nat)] W fun e w' => e = .returned (.int .i64 (j : Nat)) ∧ Below W.heap.size W w') := Lib.hid (fun W hW => by
    have h := number_ok x B g _ _ SP SR LV IV S f W (hx.below hW) (hm.kept hW) hf h1 h2
    rw [hj] at h
    exact h)
  have HW1 : Hid (∀ W, Calls Try.prog 27 #[.int .i64 (f : Nat), .int .i64 ((x.s1.n + x.s2.n : Nat) : Int)] W fun e w' => e = .returned (.bool true) ∧ W = w') := Lib.hid (fun W => by
    have h := within_any (f : Nat) ((x.s1.n + x.s2.n : Nat) : Int) W
    rw [show (decide ((0 : Int) ≤ (f : Nat)) && decide (((f : Nat) : Int) < ((x.s1.n + x.s2.n : Nat) : Int))) = true from by simp; omega] at h
    exact h)
  have HW2 : Hid (∀ W, Calls Try.prog 27 #[.int .i64 (j : Nat), .int .i64 (x.s0.n : Nat)] W fun e w' => e = .returned (.bool true) ∧ W = w') := Lib.hid (fun W => by
    have h := within_any (j : Nat) (x.s0.n : Nat) W
    rw [show (decide ((0 : Int) ≤ (j : Nat)) && decide (((j : Nat) : Int) < ((x.s0.n : Nat) : Int))) = true from by simp; omega] at h
    exact h)
  have HP : Hid (∀ W, Below w.heap.size w W → Calls Try.prog 29 #[.slice P1 (x.X0 j).P.length p1] W (ClP (x.X0 j).P W)) := Lib.hid (fun W hW => Clone_ok B P1 _ p1 _ W (by rw [← hP1]; exact own_kept hrow.1 hW) hp)
  have HR : Hid (∀ W, Below w.heap.size w W → Calls Try.prog 29 #[.slice R1 (x.X0 j).R.length r1] W (ClP (x.X0 j).R W)) := Lib.hid (fun W hW => Clone_ok B R1 _ r1 _ W (by rw [← hR1]; exact own_kept hrow.2 hW) hr)
  have HS : Hid (∀ W, Below w.heap.size w W → W.cell? ⟨g, 0, none⟩ = some (.slice (some ⟨gs, 0, none⟩) x.s0.n cs) ∧ W.cell? ⟨gs, j * 2, none⟩ = some (.slice P1 (x.X0 j).P.length p1) ∧ W.cell? ⟨gs, j * 2 + 1, none⟩ = some (.slice R1 (x.X0 j).R.length r1)) := Lib.hid (fun W hW => by
    have hk := hm.kept hW
    obtain ⟨g9, e9, _, _, q1, q2⟩ := hk.sg.at_ hj0
    cases e9
    exact ⟨hk.blk.cell 0, by rw [q1, hP1], by rw [q2, hR1]⟩)
  clear hm hx hrow hP1 hR1 hj hp hr
  generalize (x.X0 j).P = LP at *
  generalize (x.X0 j).R = LR at *
  generalize x.s0.n = n0 at *
  generalize hnn : x.s1.n + x.s2.n = nn at *
  clear hnn h1 h2 hf HX HM
  obtain ⟨p, hpe⟩ : ∃ p, p = LP.length := ⟨_, rfl⟩
  obtain ⟨r, hre⟩ : ∃ r, r = LR.length := ⟨_, rfl⟩
  unfold SiP
  rw [← hpe, ← hre]
  rw [← hpe] at HP HS
  rw [← hre] at HR HS
  have HPE := Lib.hid hpe
  have HRE := Lib.hid hre
  clear hpe hre
  have hb0 : Below w.heap.size w (w.alloc (.cells #[.slice none 0 0, .slice none 0 0] 42)) := (Below.refl _ _).alloc (Nat.le_refl _) _
  have HB0 := Lib.hid hb0
  have HRB := Lib.hid (Blk.new w 42 #[.slice none 0 0, .slice none 0 0])
  clear hb0
  go_enter Try.func14, Try.ntmps14
  go_upto_region 7 with (first
    | (go_at_call 10; (with_reducible refine (HC.out _ HB0.out).mono ?_); rintro e w2 ⟨rfl, hb⟩
       have HB2 : Hid (Below w.heap.size w w2) := Lib.hid (HB0.out.trans (hb.mono HB0.out.size))
       have HRB2 := Lib.hid (HRB.out.below hb HRB.out.lt)
       clear hb)
    | (go_at_call 28; (with_reducible refine (HN.out _ HB2.out).mono ?_); rintro e w3 ⟨rfl, hb⟩
       have HB3 : Hid (Below w.heap.size w w3) := Lib.hid (HB2.out.trans (hb.mono HB2.out.size))
       have HRB3 := Lib.hid (HRB2.out.below hb HRB2.out.lt)
       obtain ⟨y0, y1, y2⟩ := HS.out w3 HB3.out
       clear hb)
    | (go_at_call 27; first
        | ((with_reducible refine (HW1.out _).mono ?_); rintro e w4 ⟨rfl, rfl⟩)
        | ((with_reducible refine (HW2.out _).mono ?_); rintro e w4 ⟨rfl, rfl⟩)))
  obtain ⟨W4, hW4⟩ : ∃ W, W = w3.alloc (.cells #[.slice P1 p p1, .slice R1 r r1] 42) := ⟨_, rfl⟩
  rw [← hW4]
  have hs4 : Blk W4 w3.heap.size 42 #[.slice P1 p p1, .slice R1 r r1] := by rw [hW4]; exact Blk.new w3 42 _
  have hb4 : Below w.heap.size w W4.drew := by rw [hW4]; exact below_drew (HB3.out.alloc HB3.out.size _)
  have hr4 : Blk W4.drew w.heap.size 42 #[.slice none 0 0, .slice none 0 0] := by rw [hW4]; exact HRB3.out.alloc _
  have hne : w.heap.size < w3.heap.size := HRB3.out.lt
  have k0 : (fun W : World => W.cell? ⟨w3.heap.size, 0, none⟩ = some (.slice P1 p p1) ∧ W.cell? ⟨w3.heap.size, 1, none⟩ = some (.slice R1 r r1)) W4.drew := ⟨hs4.cell 0, hs4.cell 1⟩
  have hs4d : Blk W4.drew w3.heap.size 42 _ := hs4
  have HS4 := Lib.hid hs4d
  have HB4 := Lib.hid hb4
  have HR4 := Lib.hid hr4
  have K0 := Lib.hid k0
  clear hs4 hb4 hr4 k0 hs4d hW4 y0 y1 y2
  refine wp_region_held_drew (S := (fun W : World => W.cell? ⟨w3.heap.size, 0, none⟩ = some (.slice P1 p p1) ∧ W.cell? ⟨w3.heap.size, 1, none⟩ = some (.slice R1 r r1))) (by kernel_rfl) K0.out (fun hHeld => ?_)
  refine wpAnyH_take (i := 0) (oi := ?oi_1) (v := ?_) ?hi_1 (by kernel_rfl) ?hf_1 (by kernel_rfl) ?hQ_1 ?hy_1 (by assumption) ?_
  case hi_1 => simp only [List.getElem?_toArray, List.getElem?_cons_zero, List.getElem?_cons_succ]; rfl
  case hf_1 => kernel_rfl
  case hQ_1 => exact fun _ _ _ h => h
  case hy_1 =>
    refine Or.inl ⟨by rfl, ?_⟩
    intro W hSw
    obtain ⟨q0, q1⟩ := hSw
    go_simp
    try with_reducible rfl
  try simp only [Act.put, List.setIfInBounds_toArray, List.set_cons_zero, List.set_cons_succ]
  refine wpAnyH_take (i := 1) (oi := ?oi_2) (v := ?_) ?hi_2 (by kernel_rfl) ?hf_2 (by kernel_rfl) ?hQ_2 ?hy_2 (by assumption) ?_
  case hi_2 => simp only [List.getElem?_toArray, List.getElem?_cons_zero, List.getElem?_cons_succ]; rfl
  case hf_2 => kernel_rfl
  case hQ_2 => exact fun _ _ _ h => h
  case hy_2 =>
    refine Or.inl ⟨by rfl, ?_⟩
    intro W hSw
    obtain ⟨q0, q1⟩ := hSw
    go_simp
    try with_reducible rfl
  try simp only [Act.put, List.setIfInBounds_toArray, List.set_cons_zero, List.set_cons_succ]
  refine wpAnyH_take (i := 3) (oi := ?oi_3) (v := ?_) ?hi_3 (by kernel_rfl) ?hf_3 (by kernel_rfl) ?hQ_3 ?hy_3 (by assumption) ?_
  case hi_3 => simp only [List.getElem?_toArray, List.getElem?_cons_zero, List.getElem?_cons_succ]; rfl
  case hf_3 => kernel_rfl
  case hQ_3 => exact fun _ _ _ h => h
  case hy_3 =>
    refine Or.inl ⟨by rfl, ?_⟩
    intro W hSw
    obtain ⟨q0, q1⟩ := hSw
    go_simp
    try with_reducible rfl
  try simp only [Act.put, List.setIfInBounds_toArray, List.set_cons_zero, List.set_cons_succ]
  refine wpAnyH_take (i := 4) (oi := ?oi_4) (v := ?_) ?hi_4 (by kernel_rfl) ?hf_4 (by kernel_rfl) ?hQ_4 ?hy_4 (by assumption) ?_
  case hi_4 => simp only [List.getElem?_toArray, List.getElem?_cons_zero, List.getElem?_cons_succ]; rfl
  case hf_4 => kernel_rfl
  case hQ_4 => exact fun _ _ _ h => h
  case hy_4 =>
    refine Or.inl ⟨by rfl, ?_⟩
    intro W hSw
    obtain ⟨q0, q1⟩ := hSw
    go_simp
    try with_reducible rfl
  try simp only [Act.put, List.setIfInBounds_toArray, List.set_cons_zero, List.set_cons_succ]
  refine wpAnyH_ready (rs := [2]) (by kernel_rfl) (by simp) ?_
  refine AllReadyH.cons (o := ?oi_5) ?hi_5 (fun K hK => ?_) AllReadyH.nil
  case hi_5 => simp only [List.getElem?_toArray, List.getElem?_cons_zero, List.getElem?_cons_succ]; rfl
  go_simp
  (go_at_call 29
   with_reducible refine (HP.out _ HB4.out).mono ?_
   rintro e w5 ⟨hb, B5, d5, rfl, ho⟩
   rw [← HPE.out] at ho ⊢
   have HB5 : Hid (Below w.heap.size w w5) := Lib.hid (HB4.out.trans (hb.mono HB4.out.size))
   have HO5 := Lib.hid (own_base ho HB4.out.size)
   have HS5 := Lib.hid (HS4.out.below hb HS4.out.lt)
   have HR5 := Lib.hid (HR4.out.below hb HR4.out.lt)
   have K5 : Hid ((fun W : World => W.cell? ⟨w3.heap.size, 0, none⟩ = some (.slice P1 p p1) ∧ W.cell? ⟨w3.heap.size, 1, none⟩ = some (.slice R1 r r1)) w5) := Lib.hid ⟨HS5.out.cell 0, HS5.out.cell 1⟩
   clear hb ho)
  refine hK.out _ _ K5.out (fun hHeld => ?_)
  clear hK K
  try simp only [Act.put, List.setIfInBounds_toArray, List.set_cons_zero, List.set_cons_succ]
  refine wpAnyH_ready (rs := [5]) (by kernel_rfl) (by simp) ?_
  refine AllReadyH.cons (o := ?oi_6) ?hi_6 (fun K hK => ?_) AllReadyH.nil
  case hi_6 => simp only [List.getElem?_toArray, List.getElem?_cons_zero, List.getElem?_cons_succ]; rfl
  go_simp
  (go_at_call 29
   with_reducible refine (HR.out _ HB5.out).mono ?_
   rintro e w6 ⟨hb, B6, d6, rfl, ho⟩
   rw [← HRE.out] at ho ⊢
   have HB6 : Hid (Below w.heap.size w w6) := Lib.hid (HB5.out.trans (hb.mono HB5.out.size))
   have HO6 := Lib.hid (own_base ho HB5.out.size)
   have HO56 := Lib.hid (own_kept HO5.out hb)
   have HS6 := Lib.hid (HS5.out.below hb HS5.out.lt)
   have HR6 := Lib.hid (HR5.out.below hb HR5.out.lt)
   have K6 : Hid ((fun W : World => W.cell? ⟨w3.heap.size, 0, none⟩ = some (.slice P1 p p1) ∧ W.cell? ⟨w3.heap.size, 1, none⟩ = some (.slice R1 r r1)) w6) := Lib.hid ⟨HS6.out.cell 0, HS6.out.cell 1⟩
   have hs7 : Blk (w6.setRow w.heap.size #[.slice B5 p d5, .slice B6 r d6]) w3.heap.size 42 _ := (setRow_other w6 w.heap.size w3.heap.size _ (by omega)).trans HS6.out
   have K7 : Hid ((fun W : World => W.cell? ⟨w3.heap.size, 0, none⟩ = some (.slice P1 p p1) ∧ W.cell? ⟨w3.heap.size, 1, none⟩ = some (.slice R1 r r1)) (w6.setRow w.heap.size #[.slice B5 p d5, .slice B6 r d6])) := Lib.hid ⟨hs7.cell 0, hs7.cell 1⟩
   clear hb ho hs7)
  refine hK.out _ _ K6.out (fun hHeld => ?_)
  clear hK K
  try simp only [Act.put, List.setIfInBounds_toArray, List.set_cons_zero, List.set_cons_succ]
  refine wpAnyH_take (i := 6) (oi := ?oi_7) (v := ?_) ?hi_7 (by kernel_rfl) ?hf_7 (by kernel_rfl) ?hQ_7 ?hy_7 (by assumption) ?_
  case hi_7 => simp only [List.getElem?_toArray, List.getElem?_cons_zero, List.getElem?_cons_succ]; rfl
  case hf_7 => kernel_rfl
  case hQ_7 => exact fun _ _ _ h => h
  case hy_7 =>
    refine Or.inl ⟨by rfl, ?_⟩
    intro W hSw
    obtain ⟨q0, q1⟩ := hSw
    go_simp
    try with_reducible rfl
  try simp only [Act.put, List.setIfInBounds_toArray, List.set_cons_zero, List.set_cons_succ]
  refine wpAnyH_ready (rs := [7]) (by kernel_rfl) (by simp) ?_
  refine AllReadyH.cons (o := ?oi_8) ?hi_8 (fun K hK => ?_) AllReadyH.nil
  case hi_8 => simp only [List.getElem?_toArray, List.getElem?_cons_zero, List.getElem?_cons_succ]; rfl
  refine step_store_row rfl 42 (.tmp 4) (.tmp 39) rfl w.heap.size #[.slice B5 p d5, .slice B6 r d6] rfl rfl 42 _ HR6.out (by kernel_rfl) rfl (by simp [Value.oneCell']) ?_
  refine hK.out _ _ K7.out (fun hHeld => ?_)
  clear hK K
  try simp only [Act.put, List.setIfInBounds_toArray, List.set_cons_zero, List.set_cons_succ]
  refine wpAnyH_take (i := 8) (oi := ?oi_9) (v := ?_) ?hi_9 (by kernel_rfl) ?hf_9 (by kernel_rfl) ?hQ_9 ?hy_9 (by assumption) ?_
  case hi_9 => simp only [List.getElem?_toArray, List.getElem?_cons_zero, List.getElem?_cons_succ]; rfl
  case hf_9 => kernel_rfl
  case hQ_9 => exact fun _ _ _ h => h
  case hy_9 =>
    refine Or.inl ⟨by rfl, ?_⟩
    intro W hSw
    obtain ⟨q0, q1⟩ := hSw
    go_simp
    try with_reducible rfl
  try simp only [Act.put, List.setIfInBounds_toArray, List.set_cons_zero, List.set_cons_succ]
  refine wpAnyH_done (by kernel_rfl) ?_ _
  clear hHeld
  go_wp2
  refine bodyPost_ret (v := _) (res_cell results14 _ _ w.heap.size 42 _ _ rfl (setRow_heap w6 w.heap.size _ _ 42 (0, 0) HR6.out) Try.underlying42 rfl (by kernel_rfl)) rfl ?_
  have hf := fr_setRow w6 w.heap.size #[.slice B5 p d5, .slice B6 r d6]
  exact ⟨below_setRow HB6.out (Nat.le_refl _) _, B5, d5, B6, d6, rfl, own_fr HO56.out hf (fun k hk e => own_blk_ne HO56.out HR6.out (by decide) k hk e), own_fr HO6.out hf (fun k hk e => own_blk_ne HO6.out HR6.out (by decide) k hk e)⟩
end Go.Proofs.Ytackompihengfaa
