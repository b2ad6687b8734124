/-
  The given example of the seventh layer (awake): true, and nothing that was there is changed.
-/
import Derived.Test.YtlnffcledpccjaaGq
import Derived.WalkKit
import Derived.ProofKit
import Derived.OpenShut
import Derived.ShutString
import Derived.ChangeOld
import Derived.Below
namespace Go.Proofs.Ytlnffcledpccjaa
open Go.ChangeShapes Go.WideShapes Go.ChangeAt Go.RowKit
set_option linter.unusedVariables false
set_option linter.unusedSimpArgs false
theorem cl16 : cl 16 = 16 := by decide
set_option maxHeartbeats 2000000 in
set_option maxRecDepth 100000 in
theorem awake7_any (w : World) : Calls Try.prog 11 #[] w fun e w' => e = .returned (.bool true) ∧ Below w.heap.size w w' := by
  go_enter Try.func11, Try.ntmps11
  go_wp2_with fail
  refine (ANew_ok 1000 _ (by omega)).mono ?_
  rintro e w1 ⟨a, bb, rm, gm, rfl, h1, b1, ha, hb, hr, hg⟩
  have H1 := Lib.hid h1
  have B1 := Lib.hid b1
  have HA := Lib.hid (show w.heap.size ≤ a ∧ w.heap.size ≤ bb ∧ w.heap.size ≤ rm ∧ w.heap.size ≤ gm from ⟨ha, hb, hr, hg⟩)
  clear h1 b1 ha hb hr hg
  go_wp2_with fail
  refine (SNew_ok 16 5 w1 (by omega) (by omega) (by omega)).mono ?_
  unfold NuPost
  rintro e w2 ⟨s, m, rfl, h2, b2, hs, hm⟩
  have hds : ∀ q, (nu 16 5).mine s m q → ¬ arb a bb rm gm q := fun q hq hq4 => by
    have hlt : q < w1.heap.size := H1.out.mlt (by
      rcases hq4 with q1 | q1 | q1 | q1
      · exact .inl q1
      · exact .inr (.inl q1)
      · exact .inr (.inr (.inl q1))
      · exact .inr (.inr (.inr (.inl q1))))
    rcases hq with q1 | q1 | ⟨i, hi, _⟩
    · omega
    · omega
    · cases hi
  have H2 : Hid (Are w2 a bb rm gm (nuA 1000)) := Lib.hid (H1.out.below b2 (Nat.le_refl _))
  have B2 : Hid (Below w.heap.size w w2) := Lib.hid (B1.out.trans (b2.mono B1.out.size))
  have HSM : Hid (w.heap.size ≤ s ∧ w.heap.size ≤ m) := Lib.hid ⟨by have := B1.out.size; omega, by have := B1.out.size; omega⟩
  have HS2 := Lib.hid h2
  have HDS := Lib.hid hds
  clear h2 b2 hs hm hds
  go_wp2_with fail
  refine (New_ok H2.out HS2.out HDS.out 16 1 (by decide) (by decide) (by decide) (fun _ => rfl) rfl (by decide) (by decide) rfl (by decide)).mono ?_
  rintro e w3 h3
  obtain ⟨A, ad, hAs, hAm, hAa, rfl, hsv, htk, hft⟩ := Sv.new (c := 16) H2.out HDS.out (by decide) (by decide) h3
  have HSV := Lib.hid hsv
  have HTK := Lib.hid htk
  have HAA := Lib.hid (⟨hAs, hAm, hAa⟩ : A.s = s ∧ A.m = m ∧ A.a = a)
  have B3 : Hid (Below w.heap.size w w3) := Lib.hid (htk.fr.below B2.out B2.out.size (fun q hq => by
    rcases hq with q1 | q1 | q1 | q1 <;> rw [q1]
    · exact HA.out.1
    · exact HA.out.2.1
    · exact HA.out.2.2.1
    · exact HA.out.2.2.2))
  have F3 : Hid (∀ q, foot A (nwd 1 (nuA 1000).height 16 (nu 16 5)) q → w.heap.size ≤ q) := Lib.hid (fun q hq => by
    rcases hft q hq with q1 | q1 | q1 | ⟨i, hi, _⟩
    · have := B2.out.size; omega
    · rw [q1]; exact HSM.out.1
    · rw [q1]; exact HSM.out.2
    · cases hi)
  clear h3 hsv htk hAs hAm hAa hft
  go_wp2_with fail
  have hsv := HSV.out.fr ((Fr.refl (fun _ => False) w3).alloc (Obj.cells #[Value.int IntKind.u8 1] 5)) (fun _ _ q => q) (fun _ _ q => q)
  have hby : Byt (w3.alloc (Obj.cells #[Value.int IntKind.u8 1] 5)) (some ⟨w3.heap.size, 0, none⟩) 1 1 [1] := byt_of_blk (l := [1]) (Blk.new w3 5 _) rfl (by simp) (by unfold maxLen; omega)
  have hgf : ¬ foot A (nwd 1 (nuA 1000).height 16 (nu 16 5)) w3.heap.size := fun q => by have := HSV.out.lay.flt q; omega
  have hgb : w3.heap.size ≠ bb := by have := HSV.out.are.mlt (k := bb) (.inr (.inl rfl)); omega
  refine (PWrite_ok hsv.lay hsv.are hsv.dis hsv.pi (by decide) (by decide) 0 7 3 1 1 w3.heap.size 0 [1] ⟨by decide, by decide⟩ (by decide) (by decide) hby hgf hgb).mono ?_
  rintro e w4 ⟨d1, m1, j1, rfl, hm1, hj1, ht1, hp1, hc1⟩
  have HSV1 := Lib.hid (hsv.mx hm1)
  have HM1 := Lib.hid hm1
  have B4 : Hid (Below w.heap.size w w4) := Lib.hid (hm1.fr.below (B3.out.alloc B3.out.size _) (B3.out.alloc B3.out.size _).size (fun q hq => by rcases hq with q1 | q1; exact F3.out q q1; rw [q1]; exact HA.out.2.1))
  have F4 : Hid (∀ q, foot A d1 q → w.heap.size ≤ q) := Lib.hid (fun q hq => by
    rcases hm1.ft q hq with q1 | q1
    · exact F3.out q q1
    · exact Nat.le_trans (B3.out.alloc B3.out.size _).size q1)
  clear hsv hby hgf hgb hm1 hj1 ht1 hp1 hc1
  go_wp2_with fail
  have hsv := HSV1.out.fr ((Fr.refl (fun _ => False) w4).alloc (Obj.cells #[Value.int IntKind.u8 2] 5)) (fun _ _ q => q) (fun _ _ q => q)
  have hby : Byt (w4.alloc (Obj.cells #[Value.int IntKind.u8 2] 5)) (some ⟨w4.heap.size, 0, none⟩) 1 1 [2] := byt_of_blk (l := [2]) (Blk.new w4 5 _) rfl (by simp) (by unfold maxLen; omega)
  have hgf : ¬ foot A d1 w4.heap.size := fun q => by have := HSV1.out.lay.flt q; omega
  have hgb : w4.heap.size ≠ bb := by have := HSV1.out.are.mlt (k := bb) (.inr (.inl rfl)); omega
  have ho1 : d1.sd.ops ≤ 3 := HM1.out.ops
  have hs1 : d1.sd.size = 16 := HM1.out.size
  have hc1 : d1.sd.cap = 5 := HM1.out.cap
  refine (PWrite_ok hsv.lay hsv.are hsv.dis hsv.pi (by omega) (by rw [hc1]; simp) 1 9 0 1 1 w4.heap.size 0 [2] ⟨by decide, by decide⟩ (by decide) (by omega) hby hgf hgb).mono ?_
  rintro e w5 ⟨d2, m2, j2, rfl, hm2, hj2, ht2, hp2, _⟩
  have HSV2 := Lib.hid (hsv.mx hm2)
  have hn2 : d2.n = 1 := hm2.n.trans HM1.out.n
  have ho2 : d2.sd.ops ≤ 6 := by have := hm2.ops; omega
  have hs2 : d2.sd.size = 16 := hm2.size.trans hs1
  have hcp2 : d2.sd.cap = 5 := hm2.cap.trans hc1
  have hj20 : j2 = 0 := by have := HM1.out.n; have h1n : (nwd 1 (nuA 1000).height 16 (nu 16 5)).n = 1 := rfl; omega
  rw [hj20] at ht2 hp2
  have HP2 := Lib.hid hp2
  have B5 : Hid (Below w.heap.size w w5) := Lib.hid (hm2.fr.below (B4.out.alloc B4.out.size _) (B4.out.alloc B4.out.size _).size (fun q hq => by rcases hq with q1 | q1; exact F4.out q q1; rw [q1]; exact HA.out.2.1))
  have F5 : Hid (∀ q, foot A d2 q → w.heap.size ≤ q) := Lib.hid (fun q hq => by
    rcases hm2.ft q hq with q1 | q1
    · exact F4.out q q1
    · exact Nat.le_trans (B4.out.alloc B4.out.size _).size q1)
  clear hsv hby hgf hgb hm2 hj2 ht2 hp2 hj20 ho1 hs1 hc1
  go_wp2_with fail
  refine (PRead_ok HSV2.out.lay HSV2.out.are HSV2.out.dis HSV2.out.pi (by omega) (by rw [hcp2]; simp) 0 7 2 3 ⟨by decide, by decide⟩ (by decide) (by omega)).mono ?_
  rintro e w6 ⟨g, j3, d3, m3, rfl, hy3, hm3, hj3, ht3, hp3, hc3, _⟩
  have B6 : Hid (Below w.heap.size w w6) := Lib.hid (hm3.fr.below B5.out B5.out.size (fun q hq => by rcases hq with q1 | q1; exact F5.out q q1; rw [q1]; exact HA.out.2.1))
  have sv3 := HSV2.out.mx hm3
  have hn3 : d3.n = 1 := hm3.n.trans hn2
  have hj30 : j3 = 0 := by omega
  rw [hj30] at ht3 hp3
  have hch : d3.ch 0 = false := by
    cases q : d3.ch 0 with
    | false => rfl
    | true =>
      obtain ⟨_, e⟩ := hc3 0 q
      rw [hp3, HP2.out] at e
      cases e
  have hst0 : d3.st (0, 7) = some 0 := (sv3.pi.st _ _).2 ⟨by omega, ht3, hp3⟩
  have hst1 : ∀ x, x ≠ (0, 7) → d3.st x = none := fun x hx => by
    cases q : d3.st x with
    | none => rfl
    | some i =>
      obtain ⟨q1, q2, q3⟩ := (sv3.pi.st _ _).1 q
      have : i = 0 := by omega
      rw [this, hp3] at q3
      exact absurd q3.symm hx
  have hs3 : d3.sd.size = 16 := hm3.size.trans hs2
  have hused : d3.sd.n = 2 := sv3.used [(0, 7), (1, 9)] (by decide) (fun x => by
    constructor
    · intro hx hb
      simp only [List.mem_cons, List.not_mem_nil, or_false] at hx
      rcases hx with rfl | rfl
      · have := (sv3.pi.cl 0 (by omega) ht3 (fun q => q) hch).2 (by rw [hp3]; exact hb)
        rw [hp3, hs3] at this
        exact absurd this (by decide)
      · have := sv3.pi.cz (1, 9) (fun q => q) (hst1 _ (by decide)) hb
        rw [hs3] at this
        exact absurd this (by decide)
    · intro hb
      have := sv3.pi.wb x hb
      simp only [List.mem_cons, List.not_mem_nil, or_false] at this ⊢
      rcases this with e | e
      · exact .inr e
      · exact .inl e)
  obtain ⟨q, _, hq⟩ := sv3.lay.sts
  have hq1 : q = 1 := hq.count_eq [(0, 7)] (by decide) (fun x => by
    rw [List.mem_singleton]
    constructor
    · rintro rfl; rw [hst0]; exact fun e => by cases e
    · intro hx
      by_cases e : x = (0, 7)
      · exact e
      · exact absurd (hst1 x e) hx)
  have hus := Used_any sv3.lay.sto
  rw [hused, HAA.out.1] at hus
  have HU := Lib.hid hus
  have hre := Resident_ok sv3.lay hq
  rw [hq1] at hre
  have HR := Lib.hid hre
  have hcv : (convert 34 9 (.slice (some ⟨g, 0, none⟩) 3 3)).run Try.prog w6 = .ok (.string (str [0, 1, 0])) w6 := conv_byt hy3
  rw [show str [0, 1, 0] = ⟨#[0, 1, 0]⟩ from by decide] at hcv
  clear hy3 hm3 hj3 ht3 hp3 hc3 sv3 hn3 hj30 hch hst0 hst1 hs3 hused hq hq1 hus hre
  go_wp2_with (first
    | (go_at_call 21; refine HU.out.mono ?_; rintro e w7 ⟨rfl, rfl⟩)
    | (go_at_call 20; refine HR.out.mono ?_; rintro e w7 ⟨rfl, rfl⟩))
  go_ret
  exact ⟨rfl, B6.out⟩
end Go.Proofs.Ytlnffcledpccjaa
