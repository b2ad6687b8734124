/-
  CodeNests: the walk.
-/
import Derived.Test.YtggfaalodojjkaaNo
import Derived.Deep.RegionHeld3
import Derived.Deep.DeepCutAuto
import Derived.WalkKit
import Derived.ProofKit
import Derived.OpenShut
import Derived.ShutString
import Derived.ChangeOld
import Derived.Below
namespace Go.Proofs.Ytggfaalodojjkaa
open Go.ChangeShapes Go.WideShapes Go.ChangeAt Go.RowKit
set_option linter.unusedVariables false
set_option linter.unusedSimpArgs false
theorem Spans_yes (X : Nat → In) (m : Nat) (hm : m ≤ 150) {n : Ne} (hq : (0, n) = thN (codes X m) n0) (A : Option Addr) (c : Nat) (w : World) (hI : Ins w A c (codes X m)) :
    Calls Try.prog 6 #[.slice A m c] w fun e w' => Below w.heap.size w w' ∧ ∃ A4 c4, e = .returned (.tuple #[.slice A4 n.sp.length c4, .int .i64 0, .int .i64 0]) ∧ w'.ownsRow (w.heap.size + 1) 39 3 (.slice A4 n.sp.length c4) n.sp.length (spC n.sp) := by
  have h := Spans_ok A c (codes X m) (by rw [codes_len]; omega) w hI
  rw [codes_len] at h
  refine h.mono ?_
  rintro e w' ⟨hb, ⟨n', h1, A4, c4, he, ho⟩ | ⟨n', r, h0, h1, _⟩⟩
  · rw [← hq] at h1
    cases h1
    exact ⟨hb, A4, c4, he, ho⟩
  · rw [← hq] at h1
    cases h1
    exact absurd rfl h0
theorem Spans_no (X : Nat → In) (m : Nat) (hm : m ≤ 150) {n : Ne} {r : Int} (hq : (r, n) = thN (codes X m) n0) (hr : ¬ r = 0) (A : Option Addr) (c : Nat) (w : World) (hI : Ins w A c (codes X m)) :
    Calls Try.prog 6 #[.slice A m c] w fun e w' => Below w.heap.size w w' ∧ e = .returned (.tuple #[.slice none 0 0, .int .i64 (n.pos : Nat), .int .i64 r]) := by
  have h := Spans_ok A c (codes X m) (by rw [codes_len]; omega) w hI
  rw [codes_len] at h
  refine h.mono ?_
  rintro e w' ⟨hb, ⟨n', h1, A4, c4, he, ho⟩ | ⟨n', r', h0, h1, he⟩⟩
  · rw [← hq] at h1
    cases h1
    exact absurd rfl hr
  · rw [← hq] at h1
    cases h1
    exact ⟨hb, he⟩
set_option maxHeartbeats 8000000 in
set_option maxRecDepth 100000 in
theorem codeNests_walk (A : Option Addr) (m cap : Nat) (X : Nat → In) (w : World) (hr : IRow w A m cap X) (hbd : IBd m X) :
    Calls Try.prog 3 #[.slice A m cap] w fun e w' => e = .returned (.bool true) ∧ Below w.heap.size w w' := by
  have HG := Lib.hid (Great_ok none 0 0 (by decide) A m cap X w hbd hr)
  have hm1 := hbd.1
  have hc2 := hr.2.1
  have hc1 := hr.1
  unfold maxLen at hc2
  have HR := Lib.hid hr
  clear hr hbd
  by_cases hg : grF m X
  · have HL : Hid (∀ W, Below w.heap.size w W → Calls Try.prog 7 #[.slice A m cap] W (LsP m X W)) := Lib.hid (fun W hW => List_ok A m cap X W (by have := hg.1; omega) (fun i hi => by have := hg.2 i hi; omega) (HR.out.below hW))
    have hm : m ≤ 150 := hg.1
    have HGF := Lib.hid hg
    clear hg
    obtain ⟨q, hq⟩ : ∃ q, q = thN (codes X m) n0 := ⟨_, rfl⟩
    obtain ⟨r, n⟩ := q
    by_cases hr0 : r = 0
    · subst hr0
      have HS := Lib.hid (spn_of hq.symm)
      have HSP := Lib.hid (Spans_yes X m hm hq)
      clear hq
      go_enter Try.func3, Try.ntmps3
      go_wp2_with (first
        | (go_at_call 4; (with_reducible refine HG.out.mono ?_); rintro e w1 ⟨hb, r1, rfl, _, hz⟩
           have e0 : r1 = 0 := hz.2 ⟨by decide, HGF.out⟩
           subst e0
           have HB1 := Lib.hid hb
           clear hb hz)
        | (go_at_call 5; (with_reducible refine (awake_any _).mono ?_); rintro e w2 ⟨rfl, hb⟩
           have HB2 : Hid (Below w.heap.size w w2) := Lib.hid (HB1.out.trans (hb.mono HB1.out.size))
           clear hb)
        | (go_at_call 7; (with_reducible refine (HL.out _ HB2.out).mono ?_); rintro e w3 ⟨hb, v, S, rfl, hmd⟩
           obtain ⟨A3, c3, rfl⟩ := own_slice hmd.1
           have HB3 : Hid (Below w.heap.size w w3) := Lib.hid (HB2.out.trans (hb.mono HB2.out.size))
           have HI3 := Lib.hid (made_ins hmd)
           clear hb hmd)
        | (go_at_call 6
           (with_reducible refine (HSP.out A3 c3 w3 HI3.out).mono ?_)
           rintro e w4 ⟨hb, A4, c4, rfl, ho⟩
           have HB4 : Hid (Below w.heap.size w w4) := Lib.hid (HB3.out.trans (hb.mono HB3.out.size))
           have HO4 := Lib.hid ho
           clear hb ho))
      have HC : Hid (∀ W, Below w.heap.size w W → ∀ i, i < m → ∃ b off, A = some ⟨b, off, none⟩ ∧ W.cell? ⟨b, off + i * 5, none⟩ = some (.int .i64 (X i).cd)) := Lib.hid (fun W hW i hi => by
        obtain ⟨b, off, e, hl, hit⟩ := HR.out.2.2 (by omega)
        obtain ⟨_, _, h0, _⟩ := hit i hi
        exact ⟨b, off, e, (hW.cell (p := ⟨b, off + i * 5, none⟩) hl).trans h0⟩)
      have HP : Hid (∀ W, Below w4.heap.size w4 W → ∀ (i : Nat) (t : Nat × Int × Nat), n.sp[i]? = some t → ∃ g, A4 = some ⟨g, 0, none⟩ ∧ W.cell? ⟨g, i * 3, none⟩ = some (.int .i64 t.1) ∧ W.cell? ⟨g, i * 3 + 1, none⟩ = some (.int .i64 t.2.1) ∧ W.cell? ⟨g, i * 3 + 2, none⟩ = some (.int .i64 t.2.2)) := Lib.hid (fun W hW i t ht => by
        have hi : i < n.sp.length := (List.getElem?_eq_some_iff.1 ht).1
        obtain ⟨g, c9, e, _⟩ := own_some HO4.out (by omega)
        injection e with e1 e2 e3
        subst e1
        exact ⟨g, rfl, span_cells (own_kept HO4.out hW) i t ht⟩)
      have hc4 : n.sp.length ≤ c4 ∧ (c4 : Int) ≤ 9223372036854775807 := by
        rcases HO4.out.2 with ⟨e, h0⟩ | ⟨g, cp, cur, e, _, _, h1, h2, _⟩
        · injection e with e1 e2 e3; omega
        · injection e with e1 e2 e3; unfold maxLen at h2; omega
      have HD : Hid (Spn (fun i => (codes X m).getD i 0) m n.sp) := by have h := HS.out; rw [codes_len] at h; exact Lib.hid h
      have HCT : Hid (n.sp.length = cntO (fun i => (X i).cd) m) := Lib.hid (HD.out.ct.trans (cntO_congr (fun i hi => codes_get X m i hi)))
      have HCL : Hid (∀ i, i < m → (fun i => (codes X m).getD i 0) i = (X i).cd) := Lib.hid (fun i hi => codes_get X m i hi)
      have hN : n.sp.length ≤ 150 := by have := cntO_le (fun i => (X i).cd) m; rw [← HCT.out] at this; omega
      clear HG HGF HL HS HSP HB1 HB2 HB3 HI3 HO4
      go_loop [6, 7] (fun v6 v7 => ∃ k u : Nat, k ≤ m ∧ v7 = .int .i64 k ∧ v6 = .int .i64 u ∧ u ≤ k ∧ Hid (u = cntO (fun i => (X i).cd) k)) (fun _ v7 => m - (intOf v7).toNat)
      case atStart => exact ⟨0, 0, Nat.zero_le _, rfl, rfl, Nat.le_refl _, Lib.hid rfl⟩
      case round =>
        obtain ⟨k, u, hk, rfl, rfl, huk, HU⟩ := hrel
        by_cases hlt : k < m
        · obtain ⟨b, off, rfl, x0⟩ := HC.out w4 HB4.out k hlt
          have HN : Hid (cntO (fun i => (X i).cd) (k + 1) = u + (if opnB (X k).cd then 1 else 0)) := Lib.hid (by rw [HU.out]; rfl)
          generalize (X k).cd = cd at x0 HN
          by_cases h1 : 2 ≤ cd
          · by_cases h2 : cd ≤ 4
            · have HN2 : Hid (u + 1 = cntO (fun i => (X i).cd) (k + 1)) := Lib.hid (by
                rw [HN.out, if_pos]
                have : cd = 2 ∨ cd = 3 ∨ cd = 4 := by omega
                rcases this with rfl | rfl | rfl <;> rfl)
              go_wp2
              go_round
              case rel => exact ⟨k + 1, u + 1, by omega, by go_num, by go_num, by omega, HN2⟩
              case measure => simp [intOf]; omega
            · have HN2 : Hid (u = cntO (fun i => (X i).cd) (k + 1)) := Lib.hid (by
                rw [HN.out, if_neg]; rfl
                simp [opnB]; omega)
              go_wp2
              go_round
              case rel => exact ⟨k + 1, u, by omega, by go_num, rfl, by omega, HN2⟩
              case measure => simp [intOf]; omega
          · have HN2 : Hid (u = cntO (fun i => (X i).cd) (k + 1)) := Lib.hid (by
              rw [HN.out, if_neg]; rfl
              simp [opnB]; omega)
            go_wp2
            go_round
            case rel => exact ⟨k + 1, u, by omega, by go_num, rfl, by omega, HN2⟩
            case measure => simp [intOf]; omega
        · have e0 : m = k := by omega
          subst e0
          have HU2 : Hid (u = n.sp.length) := Lib.hid (HU.out.trans HCT.out.symm)
          go_wp2
          go_loopw [8] (fun v8 wr => ∃ i : Nat, i ≤ n.sp.length ∧ v8 = .int .i64 i ∧ Hid (Below w4.heap.size w4 wr)) (fun v8 _ => n.sp.length - (intOf v8).toNat)
          case atStart => exact ⟨0, Nat.zero_le _, rfl, Lib.hid (Below.refl _ _)⟩
          case round =>
            obtain ⟨i, hi, rfl, HW⟩ := hrel
            generalize wr = wo at HW ⊢
            by_cases hlt2 : i < n.sp.length
            · have ht : n.sp[i]? = some n.sp[i] := List.getElem?_eq_getElem hlt2
              generalize n.sp[i] = t at ht
              obtain ⟨b, e, f⟩ := t
              obtain ⟨g, rfl, y0, y1, y2⟩ := HP.out wo HW.out i _ ht
              obtain ⟨p1, p2, p3, p4, p5⟩ := HD.out.bg i _ ht
              have p6 := HD.out.el i _ ht
              dsimp only at y0 y1 y2 p1 p2 p3 p4 p5 p6
              have e1 := HCL.out b (by omega)
              have e2 := HCL.out f (by omega)
              have HT := Lib.hid ht
              obtain ⟨W1, hW1⟩ : ∃ W1, W1 = wo.alloc (.cells #[.int .i64 b, .int .i64 e, .int .i64 f] 39) := ⟨_, rfl⟩
              have hb1 : Below w4.heap.size w4 W1 := by rw [hW1]; exact HW.out.alloc HW.out.size _
              have hx1 : Blk W1 wo.heap.size 39 #[.int .i64 b, .int .i64 e, .int .i64 f] := by rw [hW1]; exact Blk.new _ _ _
              have hs1 : wo.heap.size < wo.heap.size + 1 := by omega
              have hbw : Below w.heap.size w W1 := HB4.out.trans (hb1.mono HB4.out.size)
              obtain ⟨bb, off, rfl, z0⟩ := HC.out _ hbw b (by omega)
              obtain ⟨bb', off', e9, z1⟩ := HC.out _ hbw f (by omega)
              injection e9 with e9
              injection e9 with e9 e10
              subst e9 e10
              have z9 := fun x hx => HC.out _ hbw x hx
              rw [← e1] at z0
              rw [← e2, p5] at z1
              have HW1 := Lib.hid hb1
              have HX1 := Lib.hid hx1
              have HX1s := Lib.hid hs1
              have HW1E := Lib.hid hW1
              rcases p6 with rfl | ⟨x, rfl, q1, q2, q3, q4⟩
              · generalize (codes X m).getD b 0 = cb at z0 p3 p4
                rw [hW1] at z0 z1
                clear hb1 hx1 hs1 hbw z9 hW1 ht e1 e2 p5
                have n1 : decide ((b : Int) < 0) = false := by simp
                have n2 : decide (cb < 2) = false := by rw [decide_eq_false_iff_not]; omega
                have n3 : decide (4 < cb) = false := by rw [decide_eq_false_iff_not]; omega
                go_wp2
                go_loopw [10] (fun v10 wq => ∃ k : Nat, k ≤ i ∧ v10 = .int .i64 k ∧ Hid (Below (wo.heap.size + 1) W1 wq)) (fun v10 _ => i - (intOf v10).toNat)
                case atStart => exact ⟨0, Nat.zero_le _, rfl, Lib.hid (by rw [HW1E.out]; exact Below.refl _ _)⟩
                case round =>
                  obtain ⟨k, hk, rfl, HQ⟩ := hrel
                  have hWq : Below w4.heap.size w4 wr := HW1.out.trans (HQ.out.mono (by have := HW.out.size; omega))
                  by_cases hlt3 : k < i
                  · have hs : n.sp[k]? = some n.sp[k] := List.getElem?_eq_getElem (by omega)
                    generalize n.sp[k] = s at hs
                    obtain ⟨bk, ek, fk⟩ := s
                    obtain ⟨g', eg, y0, y1, y2⟩ := HP.out _ hWq k _ hs
                    injection eg with eg
                    injection eg with eg
                    subst eg
                    have hkn : k < n.sp.length := by omega
                    obtain ⟨r1, r2⟩ := HD.out.ne k i _ _ hs HT.out hlt3
                    dsimp only at y0 y1 y2 r1 r2
                    have x0 := (HX1.out.below HQ.out HX1s.out).cell 0
                    have x2 := (HX1.out.below HQ.out HX1s.out).cell 2
                    clear hWq hs
                    by_cases hbf : b < fk
                    · have r3 := r2 hbf
                      have k0 : (fun W : World => W.cell? ⟨wo.heap.size, 0, none⟩ = some (.int .i64 b) ∧ W.cell? ⟨wo.heap.size, 2, none⟩ = some (.int .i64 f) ∧ W.cell? ⟨g, k * 3, none⟩ = some (.int .i64 bk) ∧ W.cell? ⟨g, k * 3 + 2, none⟩ = some (.int .i64 fk)) wr.drew := ⟨x0, x2, y0, y2⟩
                      have d1 : decide (b ≤ bk) = false := by rw [decide_eq_false_iff_not]; omega
                      have d2 : decide (b < fk) = true := by rw [decide_eq_true_eq]; omega
                      have d3 : decide (fk ≤ f) = false := by rw [decide_eq_false_iff_not]; omega
                      go_upto_region 23 with fail
                      refine wp_region_held_drew (S := (fun W : World => W.cell? ⟨wo.heap.size, 0, none⟩ = some (.int .i64 b) ∧ W.cell? ⟨wo.heap.size, 2, none⟩ = some (.int .i64 f) ∧ W.cell? ⟨g, k * 3, none⟩ = some (.int .i64 bk) ∧ W.cell? ⟨g, k * 3 + 2, none⟩ = some (.int .i64 fk))) (by kernel_rfl) k0 (fun hHeld => ?_)
                      refine wpAnyH_take (i := 0) (oi := ?oi_1) (v := ?_) ?hi_1 (by kernel_rfl) ?hf_1 (by kernel_rfl) ?hQ_1 ?hy_1 (by assumption) ?_
                      case hi_1 => simp only [List.getElem?_toArray, List.getElem?_cons_zero, List.getElem?_cons_succ]; rfl
                      case hf_1 => kernel_rfl
                      case hQ_1 => exact fun _ _ _ h => h
                      case hy_1 =>
                        refine Or.inl ⟨by rfl, ?_⟩
                        intro W hSw
                        obtain ⟨q0, q1, q2, q3⟩ := hSw
                        go_simp
                        try with_reducible rfl
                      try simp only [Act.put, List.setIfInBounds_toArray, List.set_cons_zero, List.set_cons_succ]
                      refine wpAnyH_take (i := 1) (oi := ?oi_2) (v := ?_) ?hi_2 (by kernel_rfl) ?hf_2 (by kernel_rfl) ?hQ_2 ?hy_2 (by assumption) ?_
                      case hi_2 => simp only [List.getElem?_toArray, List.getElem?_cons_zero, List.getElem?_cons_succ]; rfl
                      case hf_2 => kernel_rfl
                      case hQ_2 => exact fun _ _ _ h => h
                      case hy_2 =>
                        refine Or.inl ⟨by rfl, ?_⟩
                        intro W hSw
                        obtain ⟨q0, q1, q2, q3⟩ := hSw
                        go_simp
                        try with_reducible rfl
                      try simp only [Act.put, List.setIfInBounds_toArray, List.set_cons_zero, List.set_cons_succ]
                      refine wpAnyH_take (i := 2) (oi := ?oi_3) (v := ?_) ?hi_3 (by kernel_rfl) ?hf_3 (by kernel_rfl) ?hQ_3 ?hy_3 (by assumption) ?_
                      case hi_3 => simp only [List.getElem?_toArray, List.getElem?_cons_zero, List.getElem?_cons_succ]; rfl
                      case hf_3 => kernel_rfl
                      case hQ_3 => exact fun _ _ _ h => h
                      case hy_3 =>
                        refine Or.inl ⟨by rfl, ?_⟩
                        intro W hSw
                        obtain ⟨q0, q1, q2, q3⟩ := hSw
                        go_simp
                        try with_reducible rfl
                      try simp only [Act.put, List.setIfInBounds_toArray, List.set_cons_zero, List.set_cons_succ]
                      refine wpAnyH_take (i := 3) (oi := ?oi_4) (v := ?_) ?hi_4 (by kernel_rfl) ?hf_4 (by kernel_rfl) ?hQ_4 ?hy_4 (by assumption) ?_
                      case hi_4 => simp only [List.getElem?_toArray, List.getElem?_cons_zero, List.getElem?_cons_succ]; rfl
                      case hf_4 => kernel_rfl
                      case hQ_4 => exact fun _ _ _ h => h
                      case hy_4 =>
                        refine Or.inl ⟨by rfl, ?_⟩
                        intro W hSw
                        obtain ⟨q0, q1, q2, q3⟩ := hSw
                        go_simp
                        try with_reducible rfl
                      try simp only [Act.put, List.setIfInBounds_toArray, List.set_cons_zero, List.set_cons_succ]
                      refine wpAnyH_take (i := 4) (oi := ?oi_5) (v := ?_) ?hi_5 (by kernel_rfl) ?hf_5 (by kernel_rfl) ?hQ_5 ?hy_5 (by assumption) ?_
                      case hi_5 => simp only [List.getElem?_toArray, List.getElem?_cons_zero, List.getElem?_cons_succ]; rfl
                      case hf_5 => kernel_rfl
                      case hQ_5 => exact fun _ _ _ h => h
                      case hy_5 =>
                        refine Or.inl ⟨by rfl, ?_⟩
                        intro W hSw
                        obtain ⟨q0, q1, q2, q3⟩ := hSw
                        go_simp
                        try with_reducible rfl
                      try simp only [Act.put, List.setIfInBounds_toArray, List.set_cons_zero, List.set_cons_succ]
                      refine wpAnyH_take (i := 5) (oi := ?oi_6) (v := ?_) ?hi_6 (by kernel_rfl) ?hf_6 (by kernel_rfl) ?hQ_6 ?hy_6 (by assumption) ?_
                      case hi_6 => simp only [List.getElem?_toArray, List.getElem?_cons_zero, List.getElem?_cons_succ]; rfl
                      case hf_6 => kernel_rfl
                      case hQ_6 => exact fun _ _ _ h => h
                      case hy_6 =>
                        refine Or.inl ⟨by rfl, ?_⟩
                        intro W hSw
                        obtain ⟨q0, q1, q2, q3⟩ := hSw
                        go_simp
                        try with_reducible rfl
                      try simp only [Act.put, List.setIfInBounds_toArray, List.set_cons_zero, List.set_cons_succ]
                      refine wpAnyH_take (i := 6) (oi := ?oi_7) (v := ?_) ?hi_7 (by kernel_rfl) ?hf_7 (by kernel_rfl) ?hQ_7 ?hy_7 (by assumption) ?_
                      case hi_7 => simp only [List.getElem?_toArray, List.getElem?_cons_zero, List.getElem?_cons_succ]; rfl
                      case hf_7 => kernel_rfl
                      case hQ_7 => exact fun _ _ _ h => h
                      case hy_7 =>
                        refine Or.inl ⟨by rfl, ?_⟩
                        intro W hSw
                        obtain ⟨q0, q1, q2, q3⟩ := hSw
                        go_simp
                        try with_reducible rfl
                      try simp only [Act.put, List.setIfInBounds_toArray, List.set_cons_zero, List.set_cons_succ]
                      refine wpAnyH_take (i := 7) (oi := ?oi_8) (v := ?_) ?hi_8 (by kernel_rfl) ?hf_8 (by kernel_rfl) ?hQ_8 ?hy_8 (by assumption) ?_
                      case hi_8 => simp only [List.getElem?_toArray, List.getElem?_cons_zero, List.getElem?_cons_succ]; rfl
                      case hf_8 => kernel_rfl
                      case hQ_8 => exact fun _ _ _ h => h
                      case hy_8 =>
                        refine Or.inl ⟨by rfl, ?_⟩
                        intro W hSw
                        obtain ⟨q0, q1, q2, q3⟩ := hSw
                        go_simp
                        try with_reducible rfl
                      try simp only [Act.put, List.setIfInBounds_toArray, List.set_cons_zero, List.set_cons_succ]
                      try simp only [d1]
                      refine wpAnyH_take (i := 8) (oi := ?oi_9) (v := ?_) ?hi_9 (by kernel_rfl) ?hf_9 (by kernel_rfl) ?hQ_9 ?hy_9 (by assumption) ?_
                      case hi_9 => simp only [List.getElem?_toArray, List.getElem?_cons_zero, List.getElem?_cons_succ]; rfl
                      case hf_9 => kernel_rfl
                      case hQ_9 => exact fun _ _ _ h => h
                      case hy_9 =>
                        refine Or.inl ⟨by rfl, ?_⟩
                        intro W hSw
                        obtain ⟨q0, q1, q2, q3⟩ := hSw
                        go_simp
                        try with_reducible rfl
                      try simp only [Act.put, List.setIfInBounds_toArray, List.set_cons_zero, List.set_cons_succ]
                      refine wpAnyH_take (i := 9) (oi := ?oi_10) (v := ?_) ?hi_10 (by kernel_rfl) ?hf_10 (by kernel_rfl) ?hQ_10 ?hy_10 (by assumption) ?_
                      case hi_10 => simp only [List.getElem?_toArray, List.getElem?_cons_zero, List.getElem?_cons_succ]; rfl
                      case hf_10 => kernel_rfl
                      case hQ_10 => exact fun _ _ _ h => h
                      case hy_10 =>
                        refine Or.inl ⟨by rfl, ?_⟩
                        intro W hSw
                        obtain ⟨q0, q1, q2, q3⟩ := hSw
                        go_simp
                        try with_reducible rfl
                      try simp only [Act.put, List.setIfInBounds_toArray, List.set_cons_zero, List.set_cons_succ]
                      refine wpAnyH_take (i := 10) (oi := ?oi_11) (v := ?_) ?hi_11 (by kernel_rfl) ?hf_11 (by kernel_rfl) ?hQ_11 ?hy_11 (by assumption) ?_
                      case hi_11 => simp only [List.getElem?_toArray, List.getElem?_cons_zero, List.getElem?_cons_succ]; rfl
                      case hf_11 => kernel_rfl
                      case hQ_11 => exact fun _ _ _ h => h
                      case hy_11 =>
                        refine Or.inl ⟨by rfl, ?_⟩
                        intro W hSw
                        obtain ⟨q0, q1, q2, q3⟩ := hSw
                        go_simp
                        try with_reducible rfl
                      try simp only [Act.put, List.setIfInBounds_toArray, List.set_cons_zero, List.set_cons_succ]
                      refine wpAnyH_take (i := 11) (oi := ?oi_12) (v := ?_) ?hi_12 (by kernel_rfl) ?hf_12 (by kernel_rfl) ?hQ_12 ?hy_12 (by assumption) ?_
                      case hi_12 => simp only [List.getElem?_toArray, List.getElem?_cons_zero, List.getElem?_cons_succ]; rfl
                      case hf_12 => kernel_rfl
                      case hQ_12 => exact fun _ _ _ h => h
                      case hy_12 =>
                        refine Or.inl ⟨by rfl, ?_⟩
                        intro W hSw
                        obtain ⟨q0, q1, q2, q3⟩ := hSw
                        go_simp
                        try with_reducible rfl
                      try simp only [Act.put, List.setIfInBounds_toArray, List.set_cons_zero, List.set_cons_succ]
                      refine wpAnyH_take (i := 12) (oi := ?oi_13) (v := ?_) ?hi_13 (by kernel_rfl) ?hf_13 (by kernel_rfl) ?hQ_13 ?hy_13 (by assumption) ?_
                      case hi_13 => simp only [List.getElem?_toArray, List.getElem?_cons_zero, List.getElem?_cons_succ]; rfl
                      case hf_13 => kernel_rfl
                      case hQ_13 => exact fun _ _ _ h => h
                      case hy_13 =>
                        refine Or.inl ⟨by rfl, ?_⟩
                        intro W hSw
                        obtain ⟨q0, q1, q2, q3⟩ := hSw
                        go_simp
                        try with_reducible rfl
                      try simp only [Act.put, List.setIfInBounds_toArray, List.set_cons_zero, List.set_cons_succ]
                      refine wpAnyH_take (i := 13) (oi := ?oi_14) (v := ?_) ?hi_14 (by kernel_rfl) ?hf_14 (by kernel_rfl) ?hQ_14 ?hy_14 (by assumption) ?_
                      case hi_14 => simp only [List.getElem?_toArray, List.getElem?_cons_zero, List.getElem?_cons_succ]; rfl
                      case hf_14 => kernel_rfl
                      case hQ_14 => exact fun _ _ _ h => h
                      case hy_14 =>
                        refine Or.inl ⟨by rfl, ?_⟩
                        intro W hSw
                        obtain ⟨q0, q1, q2, q3⟩ := hSw
                        go_simp
                        try with_reducible rfl
                      try simp only [Act.put, List.setIfInBounds_toArray, List.set_cons_zero, List.set_cons_succ]
                      refine wpAnyH_take (i := 14) (oi := ?oi_15) (v := ?_) ?hi_15 (by kernel_rfl) ?hf_15 (by kernel_rfl) ?hQ_15 ?hy_15 (by assumption) ?_
                      case hi_15 => simp only [List.getElem?_toArray, List.getElem?_cons_zero, List.getElem?_cons_succ]; rfl
                      case hf_15 => kernel_rfl
                      case hQ_15 => exact fun _ _ _ h => h
                      case hy_15 =>
                        refine Or.inl ⟨by rfl, ?_⟩
                        intro W hSw
                        obtain ⟨q0, q1, q2, q3⟩ := hSw
                        go_simp
                        try with_reducible rfl
                      try simp only [Act.put, List.setIfInBounds_toArray, List.set_cons_zero, List.set_cons_succ]
                      refine wpAnyH_take (i := 15) (oi := ?oi_16) (v := ?_) ?hi_16 (by kernel_rfl) ?hf_16 (by kernel_rfl) ?hQ_16 ?hy_16 (by assumption) ?_
                      case hi_16 => simp only [List.getElem?_toArray, List.getElem?_cons_zero, List.getElem?_cons_succ]; rfl
                      case hf_16 => kernel_rfl
                      case hQ_16 => exact fun _ _ _ h => h
                      case hy_16 =>
                        refine Or.inl ⟨by rfl, ?_⟩
                        intro W hSw
                        obtain ⟨q0, q1, q2, q3⟩ := hSw
                        go_simp
                        try with_reducible rfl
                      try simp only [Act.put, List.setIfInBounds_toArray, List.set_cons_zero, List.set_cons_succ]
                      refine wpAnyH_take (i := 16) (oi := ?oi_17) (v := ?_) ?hi_17 (by kernel_rfl) ?hf_17 (by kernel_rfl) ?hQ_17 ?hy_17 (by assumption) ?_
                      case hi_17 => simp only [List.getElem?_toArray, List.getElem?_cons_zero, List.getElem?_cons_succ]; rfl
                      case hf_17 => kernel_rfl
                      case hQ_17 => exact fun _ _ _ h => h
                      case hy_17 =>
                        refine Or.inl ⟨by rfl, ?_⟩
                        intro W hSw
                        obtain ⟨q0, q1, q2, q3⟩ := hSw
                        go_simp
                        try with_reducible rfl
                      try simp only [Act.put, List.setIfInBounds_toArray, List.set_cons_zero, List.set_cons_succ]
                      try simp only [d2]
                      refine wpAnyH_take (i := 17) (oi := ?oi_18) (v := ?_) ?hi_18 (by kernel_rfl) ?hf_18 (by kernel_rfl) ?hQ_18 ?hy_18 (by assumption) ?_
                      case hi_18 => simp only [List.getElem?_toArray, List.getElem?_cons_zero, List.getElem?_cons_succ]; rfl
                      case hf_18 => kernel_rfl
                      case hQ_18 => exact fun _ _ _ h => h
                      case hy_18 =>
                        refine Or.inl ⟨by rfl, ?_⟩
                        intro W hSw
                        obtain ⟨q0, q1, q2, q3⟩ := hSw
                        go_simp
                        try with_reducible rfl
                      try simp only [Act.put, List.setIfInBounds_toArray, List.set_cons_zero, List.set_cons_succ]
                      refine wpAnyH_take (i := 18) (oi := ?oi_19) (v := ?_) ?hi_19 (by kernel_rfl) ?hf_19 (by kernel_rfl) ?hQ_19 ?hy_19 (by assumption) ?_
                      case hi_19 => simp only [List.getElem?_toArray, List.getElem?_cons_zero, List.getElem?_cons_succ]; rfl
                      case hf_19 => kernel_rfl
                      case hQ_19 => exact fun _ _ _ h => h
                      case hy_19 =>
                        refine Or.inl ⟨by rfl, ?_⟩
                        intro W hSw
                        obtain ⟨q0, q1, q2, q3⟩ := hSw
                        go_simp
                        try with_reducible rfl
                      try simp only [Act.put, List.setIfInBounds_toArray, List.set_cons_zero, List.set_cons_succ]
                      refine wpAnyH_take (i := 19) (oi := ?oi_20) (v := ?_) ?hi_20 (by kernel_rfl) ?hf_20 (by kernel_rfl) ?hQ_20 ?hy_20 (by assumption) ?_
                      case hi_20 => simp only [List.getElem?_toArray, List.getElem?_cons_zero, List.getElem?_cons_succ]; rfl
                      case hf_20 => kernel_rfl
                      case hQ_20 => exact fun _ _ _ h => h
                      case hy_20 =>
                        refine Or.inl ⟨by rfl, ?_⟩
                        intro W hSw
                        obtain ⟨q0, q1, q2, q3⟩ := hSw
                        go_simp
                        try with_reducible rfl
                      try simp only [Act.put, List.setIfInBounds_toArray, List.set_cons_zero, List.set_cons_succ]
                      refine wpAnyH_take (i := 20) (oi := ?oi_21) (v := ?_) ?hi_21 (by kernel_rfl) ?hf_21 (by kernel_rfl) ?hQ_21 ?hy_21 (by assumption) ?_
                      case hi_21 => simp only [List.getElem?_toArray, List.getElem?_cons_zero, List.getElem?_cons_succ]; rfl
                      case hf_21 => kernel_rfl
                      case hQ_21 => exact fun _ _ _ h => h
                      case hy_21 =>
                        refine Or.inl ⟨by rfl, ?_⟩
                        intro W hSw
                        obtain ⟨q0, q1, q2, q3⟩ := hSw
                        go_simp
                        try with_reducible rfl
                      try simp only [Act.put, List.setIfInBounds_toArray, List.set_cons_zero, List.set_cons_succ]
                      refine wpAnyH_take (i := 21) (oi := ?oi_22) (v := ?_) ?hi_22 (by kernel_rfl) ?hf_22 (by kernel_rfl) ?hQ_22 ?hy_22 (by assumption) ?_
                      case hi_22 => simp only [List.getElem?_toArray, List.getElem?_cons_zero, List.getElem?_cons_succ]; rfl
                      case hf_22 => kernel_rfl
                      case hQ_22 => exact fun _ _ _ h => h
                      case hy_22 =>
                        refine Or.inl ⟨by rfl, ?_⟩
                        intro W hSw
                        obtain ⟨q0, q1, q2, q3⟩ := hSw
                        go_simp
                        try with_reducible rfl
                      try simp only [Act.put, List.setIfInBounds_toArray, List.set_cons_zero, List.set_cons_succ]
                      refine wpAnyH_take (i := 22) (oi := ?oi_23) (v := ?_) ?hi_23 (by kernel_rfl) ?hf_23 (by kernel_rfl) ?hQ_23 ?hy_23 (by assumption) ?_
                      case hi_23 => simp only [List.getElem?_toArray, List.getElem?_cons_zero, List.getElem?_cons_succ]; rfl
                      case hf_23 => kernel_rfl
                      case hQ_23 => exact fun _ _ _ h => h
                      case hy_23 =>
                        refine Or.inl ⟨by rfl, ?_⟩
                        intro W hSw
                        obtain ⟨q0, q1, q2, q3⟩ := hSw
                        go_simp
                        try with_reducible rfl
                      try simp only [Act.put, List.setIfInBounds_toArray, List.set_cons_zero, List.set_cons_succ]
                      refine wpAnyH_take (i := 23) (oi := ?oi_24) (v := ?_) ?hi_24 (by kernel_rfl) ?hf_24 (by kernel_rfl) ?hQ_24 ?hy_24 (by assumption) ?_
                      case hi_24 => simp only [List.getElem?_toArray, List.getElem?_cons_zero, List.getElem?_cons_succ]; rfl
                      case hf_24 => kernel_rfl
                      case hQ_24 => exact fun _ _ _ h => h
                      case hy_24 =>
                        refine Or.inl ⟨by rfl, ?_⟩
                        intro W hSw
                        obtain ⟨q0, q1, q2, q3⟩ := hSw
                        go_simp
                        try with_reducible rfl
                      try simp only [Act.put, List.setIfInBounds_toArray, List.set_cons_zero, List.set_cons_succ]
                      refine wpAnyH_take (i := 24) (oi := ?oi_25) (v := ?_) ?hi_25 (by kernel_rfl) ?hf_25 (by kernel_rfl) ?hQ_25 ?hy_25 (by assumption) ?_
                      case hi_25 => simp only [List.getElem?_toArray, List.getElem?_cons_zero, List.getElem?_cons_succ]; rfl
                      case hf_25 => kernel_rfl
                      case hQ_25 => exact fun _ _ _ h => h
                      case hy_25 =>
                        refine Or.inl ⟨by rfl, ?_⟩
                        intro W hSw
                        obtain ⟨q0, q1, q2, q3⟩ := hSw
                        go_simp
                        try with_reducible rfl
                      try simp only [Act.put, List.setIfInBounds_toArray, List.set_cons_zero, List.set_cons_succ]
                      refine wpAnyH_take (i := 25) (oi := ?oi_26) (v := ?_) ?hi_26 (by kernel_rfl) ?hf_26 (by kernel_rfl) ?hQ_26 ?hy_26 (by assumption) ?_
                      case hi_26 => simp only [List.getElem?_toArray, List.getElem?_cons_zero, List.getElem?_cons_succ]; rfl
                      case hf_26 => kernel_rfl
                      case hQ_26 => exact fun _ _ _ h => h
                      case hy_26 =>
                        refine Or.inl ⟨by rfl, ?_⟩
                        intro W hSw
                        obtain ⟨q0, q1, q2, q3⟩ := hSw
                        go_simp
                        try with_reducible rfl
                      try simp only [Act.put, List.setIfInBounds_toArray, List.set_cons_zero, List.set_cons_succ]
                      try simp only [d3]
                      refine wpAnyH_take (i := 26) (oi := ?oi_27) (v := ?_) ?hi_27 (by kernel_rfl) ?hf_27 (by kernel_rfl) ?hQ_27 ?hy_27 (by assumption) ?_
                      case hi_27 => simp only [List.getElem?_toArray, List.getElem?_cons_zero, List.getElem?_cons_succ]; rfl
                      case hf_27 => kernel_rfl
                      case hQ_27 => exact fun _ _ _ h => h
                      case hy_27 =>
                        refine Or.inl ⟨by rfl, ?_⟩
                        intro W hSw
                        obtain ⟨q0, q1, q2, q3⟩ := hSw
                        go_simp
                        try with_reducible rfl
                      try simp only [Act.put, List.setIfInBounds_toArray, List.set_cons_zero, List.set_cons_succ]
                      refine wpAnyH_take (i := 27) (oi := ?oi_28) (v := ?_) ?hi_28 (by kernel_rfl) ?hf_28 (by kernel_rfl) ?hQ_28 ?hy_28 (by assumption) ?_
                      case hi_28 => simp only [List.getElem?_toArray, List.getElem?_cons_zero, List.getElem?_cons_succ]; rfl
                      case hf_28 => kernel_rfl
                      case hQ_28 => exact fun _ _ _ h => h
                      case hy_28 =>
                        refine Or.inl ⟨by rfl, ?_⟩
                        intro W hSw
                        obtain ⟨q0, q1, q2, q3⟩ := hSw
                        go_simp
                        try with_reducible rfl
                      try simp only [Act.put, List.setIfInBounds_toArray, List.set_cons_zero, List.set_cons_succ]
                      refine wpAnyH_done (by kernel_rfl) ?_ _
                      clear hHeld k0
                      go_wp2
                      go_roundw
                      case rel => exact ⟨k + 1, by omega, by go_num, Lib.hid (below_drew HQ.out)⟩
                      case measure => simp [intOf]; omega
                    · clear r2
                      have k0 : (fun W : World => W.cell? ⟨wo.heap.size, 0, none⟩ = some (.int .i64 b) ∧ W.cell? ⟨wo.heap.size, 2, none⟩ = some (.int .i64 f) ∧ W.cell? ⟨g, k * 3, none⟩ = some (.int .i64 bk) ∧ W.cell? ⟨g, k * 3 + 2, none⟩ = some (.int .i64 fk)) wr.drew := ⟨x0, x2, y0, y2⟩
                      have d1 : decide (b ≤ bk) = false := by rw [decide_eq_false_iff_not]; omega
                      have d2 : decide (b < fk) = false := by rw [decide_eq_false_iff_not]; omega
                      go_upto_region 23 with fail
                      refine wp_region_held_drew (S := (fun W : World => W.cell? ⟨wo.heap.size, 0, none⟩ = some (.int .i64 b) ∧ W.cell? ⟨wo.heap.size, 2, none⟩ = some (.int .i64 f) ∧ W.cell? ⟨g, k * 3, none⟩ = some (.int .i64 bk) ∧ W.cell? ⟨g, k * 3 + 2, none⟩ = some (.int .i64 fk))) (by kernel_rfl) k0 (fun hHeld => ?_)
                      refine wpAnyH_take (i := 0) (oi := ?oi_29) (v := ?_) ?hi_29 (by kernel_rfl) ?hf_29 (by kernel_rfl) ?hQ_29 ?hy_29 (by assumption) ?_
                      case hi_29 => simp only [List.getElem?_toArray, List.getElem?_cons_zero, List.getElem?_cons_succ]; rfl
                      case hf_29 => kernel_rfl
                      case hQ_29 => exact fun _ _ _ h => h
                      case hy_29 =>
                        refine Or.inl ⟨by rfl, ?_⟩
                        intro W hSw
                        obtain ⟨q0, q1, q2, q3⟩ := hSw
                        go_simp
                        try with_reducible rfl
                      try simp only [Act.put, List.setIfInBounds_toArray, List.set_cons_zero, List.set_cons_succ]
                      refine wpAnyH_take (i := 1) (oi := ?oi_30) (v := ?_) ?hi_30 (by kernel_rfl) ?hf_30 (by kernel_rfl) ?hQ_30 ?hy_30 (by assumption) ?_
                      case hi_30 => simp only [List.getElem?_toArray, List.getElem?_cons_zero, List.getElem?_cons_succ]; rfl
                      case hf_30 => kernel_rfl
                      case hQ_30 => exact fun _ _ _ h => h
                      case hy_30 =>
                        refine Or.inl ⟨by rfl, ?_⟩
                        intro W hSw
                        obtain ⟨q0, q1, q2, q3⟩ := hSw
                        go_simp
                        try with_reducible rfl
                      try simp only [Act.put, List.setIfInBounds_toArray, List.set_cons_zero, List.set_cons_succ]
                      refine wpAnyH_take (i := 2) (oi := ?oi_31) (v := ?_) ?hi_31 (by kernel_rfl) ?hf_31 (by kernel_rfl) ?hQ_31 ?hy_31 (by assumption) ?_
                      case hi_31 => simp only [List.getElem?_toArray, List.getElem?_cons_zero, List.getElem?_cons_succ]; rfl
                      case hf_31 => kernel_rfl
                      case hQ_31 => exact fun _ _ _ h => h
                      case hy_31 =>
                        refine Or.inl ⟨by rfl, ?_⟩
                        intro W hSw
                        obtain ⟨q0, q1, q2, q3⟩ := hSw
                        go_simp
                        try with_reducible rfl
                      try simp only [Act.put, List.setIfInBounds_toArray, List.set_cons_zero, List.set_cons_succ]
                      refine wpAnyH_take (i := 3) (oi := ?oi_32) (v := ?_) ?hi_32 (by kernel_rfl) ?hf_32 (by kernel_rfl) ?hQ_32 ?hy_32 (by assumption) ?_
                      case hi_32 => simp only [List.getElem?_toArray, List.getElem?_cons_zero, List.getElem?_cons_succ]; rfl
                      case hf_32 => kernel_rfl
                      case hQ_32 => exact fun _ _ _ h => h
                      case hy_32 =>
                        refine Or.inl ⟨by rfl, ?_⟩
                        intro W hSw
                        obtain ⟨q0, q1, q2, q3⟩ := hSw
                        go_simp
                        try with_reducible rfl
                      try simp only [Act.put, List.setIfInBounds_toArray, List.set_cons_zero, List.set_cons_succ]
                      refine wpAnyH_take (i := 4) (oi := ?oi_33) (v := ?_) ?hi_33 (by kernel_rfl) ?hf_33 (by kernel_rfl) ?hQ_33 ?hy_33 (by assumption) ?_
                      case hi_33 => simp only [List.getElem?_toArray, List.getElem?_cons_zero, List.getElem?_cons_succ]; rfl
                      case hf_33 => kernel_rfl
                      case hQ_33 => exact fun _ _ _ h => h
                      case hy_33 =>
                        refine Or.inl ⟨by rfl, ?_⟩
                        intro W hSw
                        obtain ⟨q0, q1, q2, q3⟩ := hSw
                        go_simp
                        try with_reducible rfl
                      try simp only [Act.put, List.setIfInBounds_toArray, List.set_cons_zero, List.set_cons_succ]
                      refine wpAnyH_take (i := 5) (oi := ?oi_34) (v := ?_) ?hi_34 (by kernel_rfl) ?hf_34 (by kernel_rfl) ?hQ_34 ?hy_34 (by assumption) ?_
                      case hi_34 => simp only [List.getElem?_toArray, List.getElem?_cons_zero, List.getElem?_cons_succ]; rfl
                      case hf_34 => kernel_rfl
                      case hQ_34 => exact fun _ _ _ h => h
                      case hy_34 =>
                        refine Or.inl ⟨by rfl, ?_⟩
                        intro W hSw
                        obtain ⟨q0, q1, q2, q3⟩ := hSw
                        go_simp
                        try with_reducible rfl
                      try simp only [Act.put, List.setIfInBounds_toArray, List.set_cons_zero, List.set_cons_succ]
                      refine wpAnyH_take (i := 6) (oi := ?oi_35) (v := ?_) ?hi_35 (by kernel_rfl) ?hf_35 (by kernel_rfl) ?hQ_35 ?hy_35 (by assumption) ?_
                      case hi_35 => simp only [List.getElem?_toArray, List.getElem?_cons_zero, List.getElem?_cons_succ]; rfl
                      case hf_35 => kernel_rfl
                      case hQ_35 => exact fun _ _ _ h => h
                      case hy_35 =>
                        refine Or.inl ⟨by rfl, ?_⟩
                        intro W hSw
                        obtain ⟨q0, q1, q2, q3⟩ := hSw
                        go_simp
                        try with_reducible rfl
                      try simp only [Act.put, List.setIfInBounds_toArray, List.set_cons_zero, List.set_cons_succ]
                      refine wpAnyH_take (i := 7) (oi := ?oi_36) (v := ?_) ?hi_36 (by kernel_rfl) ?hf_36 (by kernel_rfl) ?hQ_36 ?hy_36 (by assumption) ?_
                      case hi_36 => simp only [List.getElem?_toArray, List.getElem?_cons_zero, List.getElem?_cons_succ]; rfl
                      case hf_36 => kernel_rfl
                      case hQ_36 => exact fun _ _ _ h => h
                      case hy_36 =>
                        refine Or.inl ⟨by rfl, ?_⟩
                        intro W hSw
                        obtain ⟨q0, q1, q2, q3⟩ := hSw
                        go_simp
                        try with_reducible rfl
                      try simp only [Act.put, List.setIfInBounds_toArray, List.set_cons_zero, List.set_cons_succ]
                      try simp only [d1]
                      refine wpAnyH_take (i := 8) (oi := ?oi_37) (v := ?_) ?hi_37 (by kernel_rfl) ?hf_37 (by kernel_rfl) ?hQ_37 ?hy_37 (by assumption) ?_
                      case hi_37 => simp only [List.getElem?_toArray, List.getElem?_cons_zero, List.getElem?_cons_succ]; rfl
                      case hf_37 => kernel_rfl
                      case hQ_37 => exact fun _ _ _ h => h
                      case hy_37 =>
                        refine Or.inl ⟨by rfl, ?_⟩
                        intro W hSw
                        obtain ⟨q0, q1, q2, q3⟩ := hSw
                        go_simp
                        try with_reducible rfl
                      try simp only [Act.put, List.setIfInBounds_toArray, List.set_cons_zero, List.set_cons_succ]
                      refine wpAnyH_take (i := 9) (oi := ?oi_38) (v := ?_) ?hi_38 (by kernel_rfl) ?hf_38 (by kernel_rfl) ?hQ_38 ?hy_38 (by assumption) ?_
                      case hi_38 => simp only [List.getElem?_toArray, List.getElem?_cons_zero, List.getElem?_cons_succ]; rfl
                      case hf_38 => kernel_rfl
                      case hQ_38 => exact fun _ _ _ h => h
                      case hy_38 =>
                        refine Or.inl ⟨by rfl, ?_⟩
                        intro W hSw
                        obtain ⟨q0, q1, q2, q3⟩ := hSw
                        go_simp
                        try with_reducible rfl
                      try simp only [Act.put, List.setIfInBounds_toArray, List.set_cons_zero, List.set_cons_succ]
                      refine wpAnyH_take (i := 10) (oi := ?oi_39) (v := ?_) ?hi_39 (by kernel_rfl) ?hf_39 (by kernel_rfl) ?hQ_39 ?hy_39 (by assumption) ?_
                      case hi_39 => simp only [List.getElem?_toArray, List.getElem?_cons_zero, List.getElem?_cons_succ]; rfl
                      case hf_39 => kernel_rfl
                      case hQ_39 => exact fun _ _ _ h => h
                      case hy_39 =>
                        refine Or.inl ⟨by rfl, ?_⟩
                        intro W hSw
                        obtain ⟨q0, q1, q2, q3⟩ := hSw
                        go_simp
                        try with_reducible rfl
                      try simp only [Act.put, List.setIfInBounds_toArray, List.set_cons_zero, List.set_cons_succ]
                      refine wpAnyH_take (i := 11) (oi := ?oi_40) (v := ?_) ?hi_40 (by kernel_rfl) ?hf_40 (by kernel_rfl) ?hQ_40 ?hy_40 (by assumption) ?_
                      case hi_40 => simp only [List.getElem?_toArray, List.getElem?_cons_zero, List.getElem?_cons_succ]; rfl
                      case hf_40 => kernel_rfl
                      case hQ_40 => exact fun _ _ _ h => h
                      case hy_40 =>
                        refine Or.inl ⟨by rfl, ?_⟩
                        intro W hSw
                        obtain ⟨q0, q1, q2, q3⟩ := hSw
                        go_simp
                        try with_reducible rfl
                      try simp only [Act.put, List.setIfInBounds_toArray, List.set_cons_zero, List.set_cons_succ]
                      refine wpAnyH_take (i := 12) (oi := ?oi_41) (v := ?_) ?hi_41 (by kernel_rfl) ?hf_41 (by kernel_rfl) ?hQ_41 ?hy_41 (by assumption) ?_
                      case hi_41 => simp only [List.getElem?_toArray, List.getElem?_cons_zero, List.getElem?_cons_succ]; rfl
                      case hf_41 => kernel_rfl
                      case hQ_41 => exact fun _ _ _ h => h
                      case hy_41 =>
                        refine Or.inl ⟨by rfl, ?_⟩
                        intro W hSw
                        obtain ⟨q0, q1, q2, q3⟩ := hSw
                        go_simp
                        try with_reducible rfl
                      try simp only [Act.put, List.setIfInBounds_toArray, List.set_cons_zero, List.set_cons_succ]
                      refine wpAnyH_take (i := 13) (oi := ?oi_42) (v := ?_) ?hi_42 (by kernel_rfl) ?hf_42 (by kernel_rfl) ?hQ_42 ?hy_42 (by assumption) ?_
                      case hi_42 => simp only [List.getElem?_toArray, List.getElem?_cons_zero, List.getElem?_cons_succ]; rfl
                      case hf_42 => kernel_rfl
                      case hQ_42 => exact fun _ _ _ h => h
                      case hy_42 =>
                        refine Or.inl ⟨by rfl, ?_⟩
                        intro W hSw
                        obtain ⟨q0, q1, q2, q3⟩ := hSw
                        go_simp
                        try with_reducible rfl
                      try simp only [Act.put, List.setIfInBounds_toArray, List.set_cons_zero, List.set_cons_succ]
                      refine wpAnyH_take (i := 14) (oi := ?oi_43) (v := ?_) ?hi_43 (by kernel_rfl) ?hf_43 (by kernel_rfl) ?hQ_43 ?hy_43 (by assumption) ?_
                      case hi_43 => simp only [List.getElem?_toArray, List.getElem?_cons_zero, List.getElem?_cons_succ]; rfl
                      case hf_43 => kernel_rfl
                      case hQ_43 => exact fun _ _ _ h => h
                      case hy_43 =>
                        refine Or.inl ⟨by rfl, ?_⟩
                        intro W hSw
                        obtain ⟨q0, q1, q2, q3⟩ := hSw
                        go_simp
                        try with_reducible rfl
                      try simp only [Act.put, List.setIfInBounds_toArray, List.set_cons_zero, List.set_cons_succ]
                      refine wpAnyH_take (i := 15) (oi := ?oi_44) (v := ?_) ?hi_44 (by kernel_rfl) ?hf_44 (by kernel_rfl) ?hQ_44 ?hy_44 (by assumption) ?_
                      case hi_44 => simp only [List.getElem?_toArray, List.getElem?_cons_zero, List.getElem?_cons_succ]; rfl
                      case hf_44 => kernel_rfl
                      case hQ_44 => exact fun _ _ _ h => h
                      case hy_44 =>
                        refine Or.inl ⟨by rfl, ?_⟩
                        intro W hSw
                        obtain ⟨q0, q1, q2, q3⟩ := hSw
                        go_simp
                        try with_reducible rfl
                      try simp only [Act.put, List.setIfInBounds_toArray, List.set_cons_zero, List.set_cons_succ]
                      refine wpAnyH_take (i := 16) (oi := ?oi_45) (v := ?_) ?hi_45 (by kernel_rfl) ?hf_45 (by kernel_rfl) ?hQ_45 ?hy_45 (by assumption) ?_
                      case hi_45 => simp only [List.getElem?_toArray, List.getElem?_cons_zero, List.getElem?_cons_succ]; rfl
                      case hf_45 => kernel_rfl
                      case hQ_45 => exact fun _ _ _ h => h
                      case hy_45 =>
                        refine Or.inl ⟨by rfl, ?_⟩
                        intro W hSw
                        obtain ⟨q0, q1, q2, q3⟩ := hSw
                        go_simp
                        try with_reducible rfl
                      try simp only [Act.put, List.setIfInBounds_toArray, List.set_cons_zero, List.set_cons_succ]
                      try simp only [d2]
                      refine wpAnyH_take (i := 17) (oi := ?oi_46) (v := ?_) ?hi_46 (by kernel_rfl) ?hf_46 (by kernel_rfl) ?hQ_46 ?hy_46 (by assumption) ?_
                      case hi_46 => simp only [List.getElem?_toArray, List.getElem?_cons_zero, List.getElem?_cons_succ]; rfl
                      case hf_46 => kernel_rfl
                      case hQ_46 => exact fun _ _ _ h => h
                      case hy_46 =>
                        refine Or.inl ⟨by rfl, ?_⟩
                        intro W hSw
                        obtain ⟨q0, q1, q2, q3⟩ := hSw
                        go_simp
                        try with_reducible rfl
                      try simp only [Act.put, List.setIfInBounds_toArray, List.set_cons_zero, List.set_cons_succ]
                      refine wpAnyH_take (i := 18) (oi := ?oi_47) (v := undef) ?hi_47 (by kernel_rfl) ?hf_47 (by kernel_rfl) ?hQ_47 ?hy_47 (by assumption) ?_
                      case hi_47 => simp only [List.getElem?_toArray, List.getElem?_cons_zero, List.getElem?_cons_succ]; rfl
                      case hf_47 => kernel_rfl
                      case hQ_47 => exact fun _ _ _ h => h
                      case hy_47 => exact Or.inr ⟨by rfl, rfl⟩
                      try simp only [Act.put, List.setIfInBounds_toArray, List.set_cons_zero, List.set_cons_succ]
                      refine wpAnyH_take (i := 19) (oi := ?oi_48) (v := undef) ?hi_48 (by kernel_rfl) ?hf_48 (by kernel_rfl) ?hQ_48 ?hy_48 (by assumption) ?_
                      case hi_48 => simp only [List.getElem?_toArray, List.getElem?_cons_zero, List.getElem?_cons_succ]; rfl
                      case hf_48 => kernel_rfl
                      case hQ_48 => exact fun _ _ _ h => h
                      case hy_48 => exact Or.inr ⟨by rfl, rfl⟩
                      try simp only [Act.put, List.setIfInBounds_toArray, List.set_cons_zero, List.set_cons_succ]
                      refine wpAnyH_take (i := 20) (oi := ?oi_49) (v := undef) ?hi_49 (by kernel_rfl) ?hf_49 (by kernel_rfl) ?hQ_49 ?hy_49 (by assumption) ?_
                      case hi_49 => simp only [List.getElem?_toArray, List.getElem?_cons_zero, List.getElem?_cons_succ]; rfl
                      case hf_49 => kernel_rfl
                      case hQ_49 => exact fun _ _ _ h => h
                      case hy_49 => exact Or.inr ⟨by rfl, rfl⟩
                      try simp only [Act.put, List.setIfInBounds_toArray, List.set_cons_zero, List.set_cons_succ]
                      refine wpAnyH_take (i := 21) (oi := ?oi_50) (v := undef) ?hi_50 (by kernel_rfl) ?hf_50 (by kernel_rfl) ?hQ_50 ?hy_50 (by assumption) ?_
                      case hi_50 => simp only [List.getElem?_toArray, List.getElem?_cons_zero, List.getElem?_cons_succ]; rfl
                      case hf_50 => kernel_rfl
                      case hQ_50 => exact fun _ _ _ h => h
                      case hy_50 => exact Or.inr ⟨by rfl, rfl⟩
                      try simp only [Act.put, List.setIfInBounds_toArray, List.set_cons_zero, List.set_cons_succ]
                      refine wpAnyH_take (i := 22) (oi := ?oi_51) (v := undef) ?hi_51 (by kernel_rfl) ?hf_51 (by kernel_rfl) ?hQ_51 ?hy_51 (by assumption) ?_
                      case hi_51 => simp only [List.getElem?_toArray, List.getElem?_cons_zero, List.getElem?_cons_succ]; rfl
                      case hf_51 => kernel_rfl
                      case hQ_51 => exact fun _ _ _ h => h
                      case hy_51 => exact Or.inr ⟨by rfl, rfl⟩
                      try simp only [Act.put, List.setIfInBounds_toArray, List.set_cons_zero, List.set_cons_succ]
                      refine wpAnyH_take (i := 23) (oi := ?oi_52) (v := undef) ?hi_52 (by kernel_rfl) ?hf_52 (by kernel_rfl) ?hQ_52 ?hy_52 (by assumption) ?_
                      case hi_52 => simp only [List.getElem?_toArray, List.getElem?_cons_zero, List.getElem?_cons_succ]; rfl
                      case hf_52 => kernel_rfl
                      case hQ_52 => exact fun _ _ _ h => h
                      case hy_52 => exact Or.inr ⟨by rfl, rfl⟩
                      try simp only [Act.put, List.setIfInBounds_toArray, List.set_cons_zero, List.set_cons_succ]
                      refine wpAnyH_take (i := 24) (oi := ?oi_53) (v := undef) ?hi_53 (by kernel_rfl) ?hf_53 (by kernel_rfl) ?hQ_53 ?hy_53 (by assumption) ?_
                      case hi_53 => simp only [List.getElem?_toArray, List.getElem?_cons_zero, List.getElem?_cons_succ]; rfl
                      case hf_53 => kernel_rfl
                      case hQ_53 => exact fun _ _ _ h => h
                      case hy_53 => exact Or.inr ⟨by rfl, rfl⟩
                      try simp only [Act.put, List.setIfInBounds_toArray, List.set_cons_zero, List.set_cons_succ]
                      refine wpAnyH_take (i := 25) (oi := ?oi_54) (v := undef) ?hi_54 (by kernel_rfl) ?hf_54 (by kernel_rfl) ?hQ_54 ?hy_54 (by assumption) ?_
                      case hi_54 => simp only [List.getElem?_toArray, List.getElem?_cons_zero, List.getElem?_cons_succ]; rfl
                      case hf_54 => kernel_rfl
                      case hQ_54 => exact fun _ _ _ h => h
                      case hy_54 => exact Or.inr ⟨by rfl, rfl⟩
                      try simp only [Act.put, List.setIfInBounds_toArray, List.set_cons_zero, List.set_cons_succ]
                      refine wpAnyH_take (i := 26) (oi := ?oi_55) (v := ?_) ?hi_55 (by kernel_rfl) ?hf_55 (by kernel_rfl) ?hQ_55 ?hy_55 (by assumption) ?_
                      case hi_55 => simp only [List.getElem?_toArray, List.getElem?_cons_zero, List.getElem?_cons_succ]; rfl
                      case hf_55 => kernel_rfl
                      case hQ_55 => exact fun _ _ _ h => h
                      case hy_55 =>
                        refine Or.inl ⟨by rfl, ?_⟩
                        intro W hSw
                        obtain ⟨q0, q1, q2, q3⟩ := hSw
                        go_simp
                        try with_reducible rfl
                      try simp only [Act.put, List.setIfInBounds_toArray, List.set_cons_zero, List.set_cons_succ]
                      refine wpAnyH_take (i := 27) (oi := ?oi_56) (v := ?_) ?hi_56 (by kernel_rfl) ?hf_56 (by kernel_rfl) ?hQ_56 ?hy_56 (by assumption) ?_
                      case hi_56 => simp only [List.getElem?_toArray, List.getElem?_cons_zero, List.getElem?_cons_succ]; rfl
                      case hf_56 => kernel_rfl
                      case hQ_56 => exact fun _ _ _ h => h
                      case hy_56 =>
                        refine Or.inl ⟨by rfl, ?_⟩
                        intro W hSw
                        obtain ⟨q0, q1, q2, q3⟩ := hSw
                        go_simp
                        try with_reducible rfl
                      try simp only [Act.put, List.setIfInBounds_toArray, List.set_cons_zero, List.set_cons_succ]
                      refine wpAnyH_done (by kernel_rfl) ?_ _
                      clear hHeld k0
                      go_wp2
                      go_roundw
                      case rel => exact ⟨k + 1, by omega, by go_num, Lib.hid (below_drew HQ.out)⟩
                      case measure => simp [intOf]; omega
                  · go_wp2
                    go_roundw
                    case rel => exact ⟨i + 1, by omega, by go_num, Lib.hid hWq⟩
                    case measure => simp [intOf]; omega
              · obtain ⟨bb', off', e9, z2⟩ := z9 x (by omega)
                injection e9 with e9
                injection e9 with e9 e10
                subst e9 e10
                have e3 := HCL.out x (by omega)
                rw [← e3, q3] at z2
                rw [q4] at z0
                rw [hW1] at z0 z1 z2
                clear hb1 hx1 hs1 hbw z9 hW1 ht e1 e2 e3 p3 p4 p5 q3 q4
                have n1 : decide ((b : Int) < 0) = false := by simp
                have n4 : decide ((x : Int) < 0) = false := by simp
                go_wp2
                go_loopw [10] (fun v10 wq => ∃ k : Nat, k ≤ i ∧ v10 = .int .i64 k ∧ Hid (Below (wo.heap.size + 1) W1 wq)) (fun v10 _ => i - (intOf v10).toNat)
                case atStart => exact ⟨0, Nat.zero_le _, rfl, Lib.hid (by rw [HW1E.out]; exact Below.refl _ _)⟩
                case round =>
                  obtain ⟨k, hk, rfl, HQ⟩ := hrel
                  have hWq : Below w4.heap.size w4 wr := HW1.out.trans (HQ.out.mono (by have := HW.out.size; omega))
                  by_cases hlt3 : k < i
                  · have hs : n.sp[k]? = some n.sp[k] := List.getElem?_eq_getElem (by omega)
                    generalize n.sp[k] = s at hs
                    obtain ⟨bk, ek, fk⟩ := s
                    obtain ⟨g', eg, y0, y1, y2⟩ := HP.out _ hWq k _ hs
                    injection eg with eg
                    injection eg with eg
                    subst eg
                    have hkn : k < n.sp.length := by omega
                    obtain ⟨r1, r2⟩ := HD.out.ne k i _ _ hs HT.out hlt3
                    dsimp only at y0 y1 y2 r1 r2
                    have x0 := (HX1.out.below HQ.out HX1s.out).cell 0
                    have x2 := (HX1.out.below HQ.out HX1s.out).cell 2
                    clear hWq hs
                    by_cases hbf : b < fk
                    · have r3 := r2 hbf
                      have k0 : (fun W : World => W.cell? ⟨wo.heap.size, 0, none⟩ = some (.int .i64 b) ∧ W.cell? ⟨wo.heap.size, 2, none⟩ = some (.int .i64 f) ∧ W.cell? ⟨g, k * 3, none⟩ = some (.int .i64 bk) ∧ W.cell? ⟨g, k * 3 + 2, none⟩ = some (.int .i64 fk)) wr.drew := ⟨x0, x2, y0, y2⟩
                      have d1 : decide (b ≤ bk) = false := by rw [decide_eq_false_iff_not]; omega
                      have d2 : decide (b < fk) = true := by rw [decide_eq_true_eq]; omega
                      have d3 : decide (fk ≤ f) = false := by rw [decide_eq_false_iff_not]; omega
                      go_upto_region 23 with fail
                      refine wp_region_held_drew (S := (fun W : World => W.cell? ⟨wo.heap.size, 0, none⟩ = some (.int .i64 b) ∧ W.cell? ⟨wo.heap.size, 2, none⟩ = some (.int .i64 f) ∧ W.cell? ⟨g, k * 3, none⟩ = some (.int .i64 bk) ∧ W.cell? ⟨g, k * 3 + 2, none⟩ = some (.int .i64 fk))) (by kernel_rfl) k0 (fun hHeld => ?_)
                      refine wpAnyH_take (i := 0) (oi := ?oi_57) (v := ?_) ?hi_57 (by kernel_rfl) ?hf_57 (by kernel_rfl) ?hQ_57 ?hy_57 (by assumption) ?_
                      case hi_57 => simp only [List.getElem?_toArray, List.getElem?_cons_zero, List.getElem?_cons_succ]; rfl
                      case hf_57 => kernel_rfl
                      case hQ_57 => exact fun _ _ _ h => h
                      case hy_57 =>
                        refine Or.inl ⟨by rfl, ?_⟩
                        intro W hSw
                        obtain ⟨q0, q1, q2, q3⟩ := hSw
                        go_simp
                        try with_reducible rfl
                      try simp only [Act.put, List.setIfInBounds_toArray, List.set_cons_zero, List.set_cons_succ]
                      refine wpAnyH_take (i := 1) (oi := ?oi_58) (v := ?_) ?hi_58 (by kernel_rfl) ?hf_58 (by kernel_rfl) ?hQ_58 ?hy_58 (by assumption) ?_
                      case hi_58 => simp only [List.getElem?_toArray, List.getElem?_cons_zero, List.getElem?_cons_succ]; rfl
                      case hf_58 => kernel_rfl
                      case hQ_58 => exact fun _ _ _ h => h
                      case hy_58 =>
                        refine Or.inl ⟨by rfl, ?_⟩
                        intro W hSw
                        obtain ⟨q0, q1, q2, q3⟩ := hSw
                        go_simp
                        try with_reducible rfl
                      try simp only [Act.put, List.setIfInBounds_toArray, List.set_cons_zero, List.set_cons_succ]
                      refine wpAnyH_take (i := 2) (oi := ?oi_59) (v := ?_) ?hi_59 (by kernel_rfl) ?hf_59 (by kernel_rfl) ?hQ_59 ?hy_59 (by assumption) ?_
                      case hi_59 => simp only [List.getElem?_toArray, List.getElem?_cons_zero, List.getElem?_cons_succ]; rfl
                      case hf_59 => kernel_rfl
                      case hQ_59 => exact fun _ _ _ h => h
                      case hy_59 =>
                        refine Or.inl ⟨by rfl, ?_⟩
                        intro W hSw
                        obtain ⟨q0, q1, q2, q3⟩ := hSw
                        go_simp
                        try with_reducible rfl
                      try simp only [Act.put, List.setIfInBounds_toArray, List.set_cons_zero, List.set_cons_succ]
                      refine wpAnyH_take (i := 3) (oi := ?oi_60) (v := ?_) ?hi_60 (by kernel_rfl) ?hf_60 (by kernel_rfl) ?hQ_60 ?hy_60 (by assumption) ?_
                      case hi_60 => simp only [List.getElem?_toArray, List.getElem?_cons_zero, List.getElem?_cons_succ]; rfl
                      case hf_60 => kernel_rfl
                      case hQ_60 => exact fun _ _ _ h => h
                      case hy_60 =>
                        refine Or.inl ⟨by rfl, ?_⟩
                        intro W hSw
                        obtain ⟨q0, q1, q2, q3⟩ := hSw
                        go_simp
                        try with_reducible rfl
                      try simp only [Act.put, List.setIfInBounds_toArray, List.set_cons_zero, List.set_cons_succ]
                      refine wpAnyH_take (i := 4) (oi := ?oi_61) (v := ?_) ?hi_61 (by kernel_rfl) ?hf_61 (by kernel_rfl) ?hQ_61 ?hy_61 (by assumption) ?_
                      case hi_61 => simp only [List.getElem?_toArray, List.getElem?_cons_zero, List.getElem?_cons_succ]; rfl
                      case hf_61 => kernel_rfl
                      case hQ_61 => exact fun _ _ _ h => h
                      case hy_61 =>
                        refine Or.inl ⟨by rfl, ?_⟩
                        intro W hSw
                        obtain ⟨q0, q1, q2, q3⟩ := hSw
                        go_simp
                        try with_reducible rfl
                      try simp only [Act.put, List.setIfInBounds_toArray, List.set_cons_zero, List.set_cons_succ]
                      refine wpAnyH_take (i := 5) (oi := ?oi_62) (v := ?_) ?hi_62 (by kernel_rfl) ?hf_62 (by kernel_rfl) ?hQ_62 ?hy_62 (by assumption) ?_
                      case hi_62 => simp only [List.getElem?_toArray, List.getElem?_cons_zero, List.getElem?_cons_succ]; rfl
                      case hf_62 => kernel_rfl
                      case hQ_62 => exact fun _ _ _ h => h
                      case hy_62 =>
                        refine Or.inl ⟨by rfl, ?_⟩
                        intro W hSw
                        obtain ⟨q0, q1, q2, q3⟩ := hSw
                        go_simp
                        try with_reducible rfl
                      try simp only [Act.put, List.setIfInBounds_toArray, List.set_cons_zero, List.set_cons_succ]
                      refine wpAnyH_take (i := 6) (oi := ?oi_63) (v := ?_) ?hi_63 (by kernel_rfl) ?hf_63 (by kernel_rfl) ?hQ_63 ?hy_63 (by assumption) ?_
                      case hi_63 => simp only [List.getElem?_toArray, List.getElem?_cons_zero, List.getElem?_cons_succ]; rfl
                      case hf_63 => kernel_rfl
                      case hQ_63 => exact fun _ _ _ h => h
                      case hy_63 =>
                        refine Or.inl ⟨by rfl, ?_⟩
                        intro W hSw
                        obtain ⟨q0, q1, q2, q3⟩ := hSw
                        go_simp
                        try with_reducible rfl
                      try simp only [Act.put, List.setIfInBounds_toArray, List.set_cons_zero, List.set_cons_succ]
                      refine wpAnyH_take (i := 7) (oi := ?oi_64) (v := ?_) ?hi_64 (by kernel_rfl) ?hf_64 (by kernel_rfl) ?hQ_64 ?hy_64 (by assumption) ?_
                      case hi_64 => simp only [List.getElem?_toArray, List.getElem?_cons_zero, List.getElem?_cons_succ]; rfl
                      case hf_64 => kernel_rfl
                      case hQ_64 => exact fun _ _ _ h => h
                      case hy_64 =>
                        refine Or.inl ⟨by rfl, ?_⟩
                        intro W hSw
                        obtain ⟨q0, q1, q2, q3⟩ := hSw
                        go_simp
                        try with_reducible rfl
                      try simp only [Act.put, List.setIfInBounds_toArray, List.set_cons_zero, List.set_cons_succ]
                      try simp only [d1]
                      refine wpAnyH_take (i := 8) (oi := ?oi_65) (v := ?_) ?hi_65 (by kernel_rfl) ?hf_65 (by kernel_rfl) ?hQ_65 ?hy_65 (by assumption) ?_
                      case hi_65 => simp only [List.getElem?_toArray, List.getElem?_cons_zero, List.getElem?_cons_succ]; rfl
                      case hf_65 => kernel_rfl
                      case hQ_65 => exact fun _ _ _ h => h
                      case hy_65 =>
                        refine Or.inl ⟨by rfl, ?_⟩
                        intro W hSw
                        obtain ⟨q0, q1, q2, q3⟩ := hSw
                        go_simp
                        try with_reducible rfl
                      try simp only [Act.put, List.setIfInBounds_toArray, List.set_cons_zero, List.set_cons_succ]
                      refine wpAnyH_take (i := 9) (oi := ?oi_66) (v := ?_) ?hi_66 (by kernel_rfl) ?hf_66 (by kernel_rfl) ?hQ_66 ?hy_66 (by assumption) ?_
                      case hi_66 => simp only [List.getElem?_toArray, List.getElem?_cons_zero, List.getElem?_cons_succ]; rfl
                      case hf_66 => kernel_rfl
                      case hQ_66 => exact fun _ _ _ h => h
                      case hy_66 =>
                        refine Or.inl ⟨by rfl, ?_⟩
                        intro W hSw
                        obtain ⟨q0, q1, q2, q3⟩ := hSw
                        go_simp
                        try with_reducible rfl
                      try simp only [Act.put, List.setIfInBounds_toArray, List.set_cons_zero, List.set_cons_succ]
                      refine wpAnyH_take (i := 10) (oi := ?oi_67) (v := ?_) ?hi_67 (by kernel_rfl) ?hf_67 (by kernel_rfl) ?hQ_67 ?hy_67 (by assumption) ?_
                      case hi_67 => simp only [List.getElem?_toArray, List.getElem?_cons_zero, List.getElem?_cons_succ]; rfl
                      case hf_67 => kernel_rfl
                      case hQ_67 => exact fun _ _ _ h => h
                      case hy_67 =>
                        refine Or.inl ⟨by rfl, ?_⟩
                        intro W hSw
                        obtain ⟨q0, q1, q2, q3⟩ := hSw
                        go_simp
                        try with_reducible rfl
                      try simp only [Act.put, List.setIfInBounds_toArray, List.set_cons_zero, List.set_cons_succ]
                      refine wpAnyH_take (i := 11) (oi := ?oi_68) (v := ?_) ?hi_68 (by kernel_rfl) ?hf_68 (by kernel_rfl) ?hQ_68 ?hy_68 (by assumption) ?_
                      case hi_68 => simp only [List.getElem?_toArray, List.getElem?_cons_zero, List.getElem?_cons_succ]; rfl
                      case hf_68 => kernel_rfl
                      case hQ_68 => exact fun _ _ _ h => h
                      case hy_68 =>
                        refine Or.inl ⟨by rfl, ?_⟩
                        intro W hSw
                        obtain ⟨q0, q1, q2, q3⟩ := hSw
                        go_simp
                        try with_reducible rfl
                      try simp only [Act.put, List.setIfInBounds_toArray, List.set_cons_zero, List.set_cons_succ]
                      refine wpAnyH_take (i := 12) (oi := ?oi_69) (v := ?_) ?hi_69 (by kernel_rfl) ?hf_69 (by kernel_rfl) ?hQ_69 ?hy_69 (by assumption) ?_
                      case hi_69 => simp only [List.getElem?_toArray, List.getElem?_cons_zero, List.getElem?_cons_succ]; rfl
                      case hf_69 => kernel_rfl
                      case hQ_69 => exact fun _ _ _ h => h
                      case hy_69 =>
                        refine Or.inl ⟨by rfl, ?_⟩
                        intro W hSw
                        obtain ⟨q0, q1, q2, q3⟩ := hSw
                        go_simp
                        try with_reducible rfl
                      try simp only [Act.put, List.setIfInBounds_toArray, List.set_cons_zero, List.set_cons_succ]
                      refine wpAnyH_take (i := 13) (oi := ?oi_70) (v := ?_) ?hi_70 (by kernel_rfl) ?hf_70 (by kernel_rfl) ?hQ_70 ?hy_70 (by assumption) ?_
                      case hi_70 => simp only [List.getElem?_toArray, List.getElem?_cons_zero, List.getElem?_cons_succ]; rfl
                      case hf_70 => kernel_rfl
                      case hQ_70 => exact fun _ _ _ h => h
                      case hy_70 =>
                        refine Or.inl ⟨by rfl, ?_⟩
                        intro W hSw
                        obtain ⟨q0, q1, q2, q3⟩ := hSw
                        go_simp
                        try with_reducible rfl
                      try simp only [Act.put, List.setIfInBounds_toArray, List.set_cons_zero, List.set_cons_succ]
                      refine wpAnyH_take (i := 14) (oi := ?oi_71) (v := ?_) ?hi_71 (by kernel_rfl) ?hf_71 (by kernel_rfl) ?hQ_71 ?hy_71 (by assumption) ?_
                      case hi_71 => simp only [List.getElem?_toArray, List.getElem?_cons_zero, List.getElem?_cons_succ]; rfl
                      case hf_71 => kernel_rfl
                      case hQ_71 => exact fun _ _ _ h => h
                      case hy_71 =>
                        refine Or.inl ⟨by rfl, ?_⟩
                        intro W hSw
                        obtain ⟨q0, q1, q2, q3⟩ := hSw
                        go_simp
                        try with_reducible rfl
                      try simp only [Act.put, List.setIfInBounds_toArray, List.set_cons_zero, List.set_cons_succ]
                      refine wpAnyH_take (i := 15) (oi := ?oi_72) (v := ?_) ?hi_72 (by kernel_rfl) ?hf_72 (by kernel_rfl) ?hQ_72 ?hy_72 (by assumption) ?_
                      case hi_72 => simp only [List.getElem?_toArray, List.getElem?_cons_zero, List.getElem?_cons_succ]; rfl
                      case hf_72 => kernel_rfl
                      case hQ_72 => exact fun _ _ _ h => h
                      case hy_72 =>
                        refine Or.inl ⟨by rfl, ?_⟩
                        intro W hSw
                        obtain ⟨q0, q1, q2, q3⟩ := hSw
                        go_simp
                        try with_reducible rfl
                      try simp only [Act.put, List.setIfInBounds_toArray, List.set_cons_zero, List.set_cons_succ]
                      refine wpAnyH_take (i := 16) (oi := ?oi_73) (v := ?_) ?hi_73 (by kernel_rfl) ?hf_73 (by kernel_rfl) ?hQ_73 ?hy_73 (by assumption) ?_
                      case hi_73 => simp only [List.getElem?_toArray, List.getElem?_cons_zero, List.getElem?_cons_succ]; rfl
                      case hf_73 => kernel_rfl
                      case hQ_73 => exact fun _ _ _ h => h
                      case hy_73 =>
                        refine Or.inl ⟨by rfl, ?_⟩
                        intro W hSw
                        obtain ⟨q0, q1, q2, q3⟩ := hSw
                        go_simp
                        try with_reducible rfl
                      try simp only [Act.put, List.setIfInBounds_toArray, List.set_cons_zero, List.set_cons_succ]
                      try simp only [d2]
                      refine wpAnyH_take (i := 17) (oi := ?oi_74) (v := ?_) ?hi_74 (by kernel_rfl) ?hf_74 (by kernel_rfl) ?hQ_74 ?hy_74 (by assumption) ?_
                      case hi_74 => simp only [List.getElem?_toArray, List.getElem?_cons_zero, List.getElem?_cons_succ]; rfl
                      case hf_74 => kernel_rfl
                      case hQ_74 => exact fun _ _ _ h => h
                      case hy_74 =>
                        refine Or.inl ⟨by rfl, ?_⟩
                        intro W hSw
                        obtain ⟨q0, q1, q2, q3⟩ := hSw
                        go_simp
                        try with_reducible rfl
                      try simp only [Act.put, List.setIfInBounds_toArray, List.set_cons_zero, List.set_cons_succ]
                      refine wpAnyH_take (i := 18) (oi := ?oi_75) (v := ?_) ?hi_75 (by kernel_rfl) ?hf_75 (by kernel_rfl) ?hQ_75 ?hy_75 (by assumption) ?_
                      case hi_75 => simp only [List.getElem?_toArray, List.getElem?_cons_zero, List.getElem?_cons_succ]; rfl
                      case hf_75 => kernel_rfl
                      case hQ_75 => exact fun _ _ _ h => h
                      case hy_75 =>
                        refine Or.inl ⟨by rfl, ?_⟩
                        intro W hSw
                        obtain ⟨q0, q1, q2, q3⟩ := hSw
                        go_simp
                        try with_reducible rfl
                      try simp only [Act.put, List.setIfInBounds_toArray, List.set_cons_zero, List.set_cons_succ]
                      refine wpAnyH_take (i := 19) (oi := ?oi_76) (v := ?_) ?hi_76 (by kernel_rfl) ?hf_76 (by kernel_rfl) ?hQ_76 ?hy_76 (by assumption) ?_
                      case hi_76 => simp only [List.getElem?_toArray, List.getElem?_cons_zero, List.getElem?_cons_succ]; rfl
                      case hf_76 => kernel_rfl
                      case hQ_76 => exact fun _ _ _ h => h
                      case hy_76 =>
                        refine Or.inl ⟨by rfl, ?_⟩
                        intro W hSw
                        obtain ⟨q0, q1, q2, q3⟩ := hSw
                        go_simp
                        try with_reducible rfl
                      try simp only [Act.put, List.setIfInBounds_toArray, List.set_cons_zero, List.set_cons_succ]
                      refine wpAnyH_take (i := 20) (oi := ?oi_77) (v := ?_) ?hi_77 (by kernel_rfl) ?hf_77 (by kernel_rfl) ?hQ_77 ?hy_77 (by assumption) ?_
                      case hi_77 => simp only [List.getElem?_toArray, List.getElem?_cons_zero, List.getElem?_cons_succ]; rfl
                      case hf_77 => kernel_rfl
                      case hQ_77 => exact fun _ _ _ h => h
                      case hy_77 =>
                        refine Or.inl ⟨by rfl, ?_⟩
                        intro W hSw
                        obtain ⟨q0, q1, q2, q3⟩ := hSw
                        go_simp
                        try with_reducible rfl
                      try simp only [Act.put, List.setIfInBounds_toArray, List.set_cons_zero, List.set_cons_succ]
                      refine wpAnyH_take (i := 21) (oi := ?oi_78) (v := ?_) ?hi_78 (by kernel_rfl) ?hf_78 (by kernel_rfl) ?hQ_78 ?hy_78 (by assumption) ?_
                      case hi_78 => simp only [List.getElem?_toArray, List.getElem?_cons_zero, List.getElem?_cons_succ]; rfl
                      case hf_78 => kernel_rfl
                      case hQ_78 => exact fun _ _ _ h => h
                      case hy_78 =>
                        refine Or.inl ⟨by rfl, ?_⟩
                        intro W hSw
                        obtain ⟨q0, q1, q2, q3⟩ := hSw
                        go_simp
                        try with_reducible rfl
                      try simp only [Act.put, List.setIfInBounds_toArray, List.set_cons_zero, List.set_cons_succ]
                      refine wpAnyH_take (i := 22) (oi := ?oi_79) (v := ?_) ?hi_79 (by kernel_rfl) ?hf_79 (by kernel_rfl) ?hQ_79 ?hy_79 (by assumption) ?_
                      case hi_79 => simp only [List.getElem?_toArray, List.getElem?_cons_zero, List.getElem?_cons_succ]; rfl
                      case hf_79 => kernel_rfl
                      case hQ_79 => exact fun _ _ _ h => h
                      case hy_79 =>
                        refine Or.inl ⟨by rfl, ?_⟩
                        intro W hSw
                        obtain ⟨q0, q1, q2, q3⟩ := hSw
                        go_simp
                        try with_reducible rfl
                      try simp only [Act.put, List.setIfInBounds_toArray, List.set_cons_zero, List.set_cons_succ]
                      refine wpAnyH_take (i := 23) (oi := ?oi_80) (v := ?_) ?hi_80 (by kernel_rfl) ?hf_80 (by kernel_rfl) ?hQ_80 ?hy_80 (by assumption) ?_
                      case hi_80 => simp only [List.getElem?_toArray, List.getElem?_cons_zero, List.getElem?_cons_succ]; rfl
                      case hf_80 => kernel_rfl
                      case hQ_80 => exact fun _ _ _ h => h
                      case hy_80 =>
                        refine Or.inl ⟨by rfl, ?_⟩
                        intro W hSw
                        obtain ⟨q0, q1, q2, q3⟩ := hSw
                        go_simp
                        try with_reducible rfl
                      try simp only [Act.put, List.setIfInBounds_toArray, List.set_cons_zero, List.set_cons_succ]
                      refine wpAnyH_take (i := 24) (oi := ?oi_81) (v := ?_) ?hi_81 (by kernel_rfl) ?hf_81 (by kernel_rfl) ?hQ_81 ?hy_81 (by assumption) ?_
                      case hi_81 => simp only [List.getElem?_toArray, List.getElem?_cons_zero, List.getElem?_cons_succ]; rfl
                      case hf_81 => kernel_rfl
                      case hQ_81 => exact fun _ _ _ h => h
                      case hy_81 =>
                        refine Or.inl ⟨by rfl, ?_⟩
                        intro W hSw
                        obtain ⟨q0, q1, q2, q3⟩ := hSw
                        go_simp
                        try with_reducible rfl
                      try simp only [Act.put, List.setIfInBounds_toArray, List.set_cons_zero, List.set_cons_succ]
                      refine wpAnyH_take (i := 25) (oi := ?oi_82) (v := ?_) ?hi_82 (by kernel_rfl) ?hf_82 (by kernel_rfl) ?hQ_82 ?hy_82 (by assumption) ?_
                      case hi_82 => simp only [List.getElem?_toArray, List.getElem?_cons_zero, List.getElem?_cons_succ]; rfl
                      case hf_82 => kernel_rfl
                      case hQ_82 => exact fun _ _ _ h => h
                      case hy_82 =>
                        refine Or.inl ⟨by rfl, ?_⟩
                        intro W hSw
                        obtain ⟨q0, q1, q2, q3⟩ := hSw
                        go_simp
                        try with_reducible rfl
                      try simp only [Act.put, List.setIfInBounds_toArray, List.set_cons_zero, List.set_cons_succ]
                      try simp only [d3]
                      refine wpAnyH_take (i := 26) (oi := ?oi_83) (v := ?_) ?hi_83 (by kernel_rfl) ?hf_83 (by kernel_rfl) ?hQ_83 ?hy_83 (by assumption) ?_
                      case hi_83 => simp only [List.getElem?_toArray, List.getElem?_cons_zero, List.getElem?_cons_succ]; rfl
                      case hf_83 => kernel_rfl
                      case hQ_83 => exact fun _ _ _ h => h
                      case hy_83 =>
                        refine Or.inl ⟨by rfl, ?_⟩
                        intro W hSw
                        obtain ⟨q0, q1, q2, q3⟩ := hSw
                        go_simp
                        try with_reducible rfl
                      try simp only [Act.put, List.setIfInBounds_toArray, List.set_cons_zero, List.set_cons_succ]
                      refine wpAnyH_take (i := 27) (oi := ?oi_84) (v := ?_) ?hi_84 (by kernel_rfl) ?hf_84 (by kernel_rfl) ?hQ_84 ?hy_84 (by assumption) ?_
                      case hi_84 => simp only [List.getElem?_toArray, List.getElem?_cons_zero, List.getElem?_cons_succ]; rfl
                      case hf_84 => kernel_rfl
                      case hQ_84 => exact fun _ _ _ h => h
                      case hy_84 =>
                        refine Or.inl ⟨by rfl, ?_⟩
                        intro W hSw
                        obtain ⟨q0, q1, q2, q3⟩ := hSw
                        go_simp
                        try with_reducible rfl
                      try simp only [Act.put, List.setIfInBounds_toArray, List.set_cons_zero, List.set_cons_succ]
                      refine wpAnyH_done (by kernel_rfl) ?_ _
                      clear hHeld k0
                      go_wp2
                      go_roundw
                      case rel => exact ⟨k + 1, by omega, by go_num, Lib.hid (below_drew HQ.out)⟩
                      case measure => simp [intOf]; omega
                    · clear r2
                      have k0 : (fun W : World => W.cell? ⟨wo.heap.size, 0, none⟩ = some (.int .i64 b) ∧ W.cell? ⟨wo.heap.size, 2, none⟩ = some (.int .i64 f) ∧ W.cell? ⟨g, k * 3, none⟩ = some (.int .i64 bk) ∧ W.cell? ⟨g, k * 3 + 2, none⟩ = some (.int .i64 fk)) wr.drew := ⟨x0, x2, y0, y2⟩
                      have d1 : decide (b ≤ bk) = false := by rw [decide_eq_false_iff_not]; omega
                      have d2 : decide (b < fk) = false := by rw [decide_eq_false_iff_not]; omega
                      go_upto_region 23 with fail
                      refine wp_region_held_drew (S := (fun W : World => W.cell? ⟨wo.heap.size, 0, none⟩ = some (.int .i64 b) ∧ W.cell? ⟨wo.heap.size, 2, none⟩ = some (.int .i64 f) ∧ W.cell? ⟨g, k * 3, none⟩ = some (.int .i64 bk) ∧ W.cell? ⟨g, k * 3 + 2, none⟩ = some (.int .i64 fk))) (by kernel_rfl) k0 (fun hHeld => ?_)
                      refine wpAnyH_take (i := 0) (oi := ?oi_85) (v := ?_) ?hi_85 (by kernel_rfl) ?hf_85 (by kernel_rfl) ?hQ_85 ?hy_85 (by assumption) ?_
                      case hi_85 => simp only [List.getElem?_toArray, List.getElem?_cons_zero, List.getElem?_cons_succ]; rfl
                      case hf_85 => kernel_rfl
                      case hQ_85 => exact fun _ _ _ h => h
                      case hy_85 =>
                        refine Or.inl ⟨by rfl, ?_⟩
                        intro W hSw
                        obtain ⟨q0, q1, q2, q3⟩ := hSw
                        go_simp
                        try with_reducible rfl
                      try simp only [Act.put, List.setIfInBounds_toArray, List.set_cons_zero, List.set_cons_succ]
                      refine wpAnyH_take (i := 1) (oi := ?oi_86) (v := ?_) ?hi_86 (by kernel_rfl) ?hf_86 (by kernel_rfl) ?hQ_86 ?hy_86 (by assumption) ?_
                      case hi_86 => simp only [List.getElem?_toArray, List.getElem?_cons_zero, List.getElem?_cons_succ]; rfl
                      case hf_86 => kernel_rfl
                      case hQ_86 => exact fun _ _ _ h => h
                      case hy_86 =>
                        refine Or.inl ⟨by rfl, ?_⟩
                        intro W hSw
                        obtain ⟨q0, q1, q2, q3⟩ := hSw
                        go_simp
                        try with_reducible rfl
                      try simp only [Act.put, List.setIfInBounds_toArray, List.set_cons_zero, List.set_cons_succ]
                      refine wpAnyH_take (i := 2) (oi := ?oi_87) (v := ?_) ?hi_87 (by kernel_rfl) ?hf_87 (by kernel_rfl) ?hQ_87 ?hy_87 (by assumption) ?_
                      case hi_87 => simp only [List.getElem?_toArray, List.getElem?_cons_zero, List.getElem?_cons_succ]; rfl
                      case hf_87 => kernel_rfl
                      case hQ_87 => exact fun _ _ _ h => h
                      case hy_87 =>
                        refine Or.inl ⟨by rfl, ?_⟩
                        intro W hSw
                        obtain ⟨q0, q1, q2, q3⟩ := hSw
                        go_simp
                        try with_reducible rfl
                      try simp only [Act.put, List.setIfInBounds_toArray, List.set_cons_zero, List.set_cons_succ]
                      refine wpAnyH_take (i := 3) (oi := ?oi_88) (v := ?_) ?hi_88 (by kernel_rfl) ?hf_88 (by kernel_rfl) ?hQ_88 ?hy_88 (by assumption) ?_
                      case hi_88 => simp only [List.getElem?_toArray, List.getElem?_cons_zero, List.getElem?_cons_succ]; rfl
                      case hf_88 => kernel_rfl
                      case hQ_88 => exact fun _ _ _ h => h
                      case hy_88 =>
                        refine Or.inl ⟨by rfl, ?_⟩
                        intro W hSw
                        obtain ⟨q0, q1, q2, q3⟩ := hSw
                        go_simp
                        try with_reducible rfl
                      try simp only [Act.put, List.setIfInBounds_toArray, List.set_cons_zero, List.set_cons_succ]
                      refine wpAnyH_take (i := 4) (oi := ?oi_89) (v := ?_) ?hi_89 (by kernel_rfl) ?hf_89 (by kernel_rfl) ?hQ_89 ?hy_89 (by assumption) ?_
                      case hi_89 => simp only [List.getElem?_toArray, List.getElem?_cons_zero, List.getElem?_cons_succ]; rfl
                      case hf_89 => kernel_rfl
                      case hQ_89 => exact fun _ _ _ h => h
                      case hy_89 =>
                        refine Or.inl ⟨by rfl, ?_⟩
                        intro W hSw
                        obtain ⟨q0, q1, q2, q3⟩ := hSw
                        go_simp
                        try with_reducible rfl
                      try simp only [Act.put, List.setIfInBounds_toArray, List.set_cons_zero, List.set_cons_succ]
                      refine wpAnyH_take (i := 5) (oi := ?oi_90) (v := ?_) ?hi_90 (by kernel_rfl) ?hf_90 (by kernel_rfl) ?hQ_90 ?hy_90 (by assumption) ?_
                      case hi_90 => simp only [List.getElem?_toArray, List.getElem?_cons_zero, List.getElem?_cons_succ]; rfl
                      case hf_90 => kernel_rfl
                      case hQ_90 => exact fun _ _ _ h => h
                      case hy_90 =>
                        refine Or.inl ⟨by rfl, ?_⟩
                        intro W hSw
                        obtain ⟨q0, q1, q2, q3⟩ := hSw
                        go_simp
                        try with_reducible rfl
                      try simp only [Act.put, List.setIfInBounds_toArray, List.set_cons_zero, List.set_cons_succ]
                      refine wpAnyH_take (i := 6) (oi := ?oi_91) (v := ?_) ?hi_91 (by kernel_rfl) ?hf_91 (by kernel_rfl) ?hQ_91 ?hy_91 (by assumption) ?_
                      case hi_91 => simp only [List.getElem?_toArray, List.getElem?_cons_zero, List.getElem?_cons_succ]; rfl
                      case hf_91 => kernel_rfl
                      case hQ_91 => exact fun _ _ _ h => h
                      case hy_91 =>
                        refine Or.inl ⟨by rfl, ?_⟩
                        intro W hSw
                        obtain ⟨q0, q1, q2, q3⟩ := hSw
                        go_simp
                        try with_reducible rfl
                      try simp only [Act.put, List.setIfInBounds_toArray, List.set_cons_zero, List.set_cons_succ]
                      refine wpAnyH_take (i := 7) (oi := ?oi_92) (v := ?_) ?hi_92 (by kernel_rfl) ?hf_92 (by kernel_rfl) ?hQ_92 ?hy_92 (by assumption) ?_
                      case hi_92 => simp only [List.getElem?_toArray, List.getElem?_cons_zero, List.getElem?_cons_succ]; rfl
                      case hf_92 => kernel_rfl
                      case hQ_92 => exact fun _ _ _ h => h
                      case hy_92 =>
                        refine Or.inl ⟨by rfl, ?_⟩
                        intro W hSw
                        obtain ⟨q0, q1, q2, q3⟩ := hSw
                        go_simp
                        try with_reducible rfl
                      try simp only [Act.put, List.setIfInBounds_toArray, List.set_cons_zero, List.set_cons_succ]
                      try simp only [d1]
                      refine wpAnyH_take (i := 8) (oi := ?oi_93) (v := ?_) ?hi_93 (by kernel_rfl) ?hf_93 (by kernel_rfl) ?hQ_93 ?hy_93 (by assumption) ?_
                      case hi_93 => simp only [List.getElem?_toArray, List.getElem?_cons_zero, List.getElem?_cons_succ]; rfl
                      case hf_93 => kernel_rfl
                      case hQ_93 => exact fun _ _ _ h => h
                      case hy_93 =>
                        refine Or.inl ⟨by rfl, ?_⟩
                        intro W hSw
                        obtain ⟨q0, q1, q2, q3⟩ := hSw
                        go_simp
                        try with_reducible rfl
                      try simp only [Act.put, List.setIfInBounds_toArray, List.set_cons_zero, List.set_cons_succ]
                      refine wpAnyH_take (i := 9) (oi := ?oi_94) (v := ?_) ?hi_94 (by kernel_rfl) ?hf_94 (by kernel_rfl) ?hQ_94 ?hy_94 (by assumption) ?_
                      case hi_94 => simp only [List.getElem?_toArray, List.getElem?_cons_zero, List.getElem?_cons_succ]; rfl
                      case hf_94 => kernel_rfl
                      case hQ_94 => exact fun _ _ _ h => h
                      case hy_94 =>
                        refine Or.inl ⟨by rfl, ?_⟩
                        intro W hSw
                        obtain ⟨q0, q1, q2, q3⟩ := hSw
                        go_simp
                        try with_reducible rfl
                      try simp only [Act.put, List.setIfInBounds_toArray, List.set_cons_zero, List.set_cons_succ]
                      refine wpAnyH_take (i := 10) (oi := ?oi_95) (v := ?_) ?hi_95 (by kernel_rfl) ?hf_95 (by kernel_rfl) ?hQ_95 ?hy_95 (by assumption) ?_
                      case hi_95 => simp only [List.getElem?_toArray, List.getElem?_cons_zero, List.getElem?_cons_succ]; rfl
                      case hf_95 => kernel_rfl
                      case hQ_95 => exact fun _ _ _ h => h
                      case hy_95 =>
                        refine Or.inl ⟨by rfl, ?_⟩
                        intro W hSw
                        obtain ⟨q0, q1, q2, q3⟩ := hSw
                        go_simp
                        try with_reducible rfl
                      try simp only [Act.put, List.setIfInBounds_toArray, List.set_cons_zero, List.set_cons_succ]
                      refine wpAnyH_take (i := 11) (oi := ?oi_96) (v := ?_) ?hi_96 (by kernel_rfl) ?hf_96 (by kernel_rfl) ?hQ_96 ?hy_96 (by assumption) ?_
                      case hi_96 => simp only [List.getElem?_toArray, List.getElem?_cons_zero, List.getElem?_cons_succ]; rfl
                      case hf_96 => kernel_rfl
                      case hQ_96 => exact fun _ _ _ h => h
                      case hy_96 =>
                        refine Or.inl ⟨by rfl, ?_⟩
                        intro W hSw
                        obtain ⟨q0, q1, q2, q3⟩ := hSw
                        go_simp
                        try with_reducible rfl
                      try simp only [Act.put, List.setIfInBounds_toArray, List.set_cons_zero, List.set_cons_succ]
                      refine wpAnyH_take (i := 12) (oi := ?oi_97) (v := ?_) ?hi_97 (by kernel_rfl) ?hf_97 (by kernel_rfl) ?hQ_97 ?hy_97 (by assumption) ?_
                      case hi_97 => simp only [List.getElem?_toArray, List.getElem?_cons_zero, List.getElem?_cons_succ]; rfl
                      case hf_97 => kernel_rfl
                      case hQ_97 => exact fun _ _ _ h => h
                      case hy_97 =>
                        refine Or.inl ⟨by rfl, ?_⟩
                        intro W hSw
                        obtain ⟨q0, q1, q2, q3⟩ := hSw
                        go_simp
                        try with_reducible rfl
                      try simp only [Act.put, List.setIfInBounds_toArray, List.set_cons_zero, List.set_cons_succ]
                      refine wpAnyH_take (i := 13) (oi := ?oi_98) (v := ?_) ?hi_98 (by kernel_rfl) ?hf_98 (by kernel_rfl) ?hQ_98 ?hy_98 (by assumption) ?_
                      case hi_98 => simp only [List.getElem?_toArray, List.getElem?_cons_zero, List.getElem?_cons_succ]; rfl
                      case hf_98 => kernel_rfl
                      case hQ_98 => exact fun _ _ _ h => h
                      case hy_98 =>
                        refine Or.inl ⟨by rfl, ?_⟩
                        intro W hSw
                        obtain ⟨q0, q1, q2, q3⟩ := hSw
                        go_simp
                        try with_reducible rfl
                      try simp only [Act.put, List.setIfInBounds_toArray, List.set_cons_zero, List.set_cons_succ]
                      refine wpAnyH_take (i := 14) (oi := ?oi_99) (v := ?_) ?hi_99 (by kernel_rfl) ?hf_99 (by kernel_rfl) ?hQ_99 ?hy_99 (by assumption) ?_
                      case hi_99 => simp only [List.getElem?_toArray, List.getElem?_cons_zero, List.getElem?_cons_succ]; rfl
                      case hf_99 => kernel_rfl
                      case hQ_99 => exact fun _ _ _ h => h
                      case hy_99 =>
                        refine Or.inl ⟨by rfl, ?_⟩
                        intro W hSw
                        obtain ⟨q0, q1, q2, q3⟩ := hSw
                        go_simp
                        try with_reducible rfl
                      try simp only [Act.put, List.setIfInBounds_toArray, List.set_cons_zero, List.set_cons_succ]
                      refine wpAnyH_take (i := 15) (oi := ?oi_100) (v := ?_) ?hi_100 (by kernel_rfl) ?hf_100 (by kernel_rfl) ?hQ_100 ?hy_100 (by assumption) ?_
                      case hi_100 => simp only [List.getElem?_toArray, List.getElem?_cons_zero, List.getElem?_cons_succ]; rfl
                      case hf_100 => kernel_rfl
                      case hQ_100 => exact fun _ _ _ h => h
                      case hy_100 =>
                        refine Or.inl ⟨by rfl, ?_⟩
                        intro W hSw
                        obtain ⟨q0, q1, q2, q3⟩ := hSw
                        go_simp
                        try with_reducible rfl
                      try simp only [Act.put, List.setIfInBounds_toArray, List.set_cons_zero, List.set_cons_succ]
                      refine wpAnyH_take (i := 16) (oi := ?oi_101) (v := ?_) ?hi_101 (by kernel_rfl) ?hf_101 (by kernel_rfl) ?hQ_101 ?hy_101 (by assumption) ?_
                      case hi_101 => simp only [List.getElem?_toArray, List.getElem?_cons_zero, List.getElem?_cons_succ]; rfl
                      case hf_101 => kernel_rfl
                      case hQ_101 => exact fun _ _ _ h => h
                      case hy_101 =>
                        refine Or.inl ⟨by rfl, ?_⟩
                        intro W hSw
                        obtain ⟨q0, q1, q2, q3⟩ := hSw
                        go_simp
                        try with_reducible rfl
                      try simp only [Act.put, List.setIfInBounds_toArray, List.set_cons_zero, List.set_cons_succ]
                      try simp only [d2]
                      refine wpAnyH_take (i := 17) (oi := ?oi_102) (v := ?_) ?hi_102 (by kernel_rfl) ?hf_102 (by kernel_rfl) ?hQ_102 ?hy_102 (by assumption) ?_
                      case hi_102 => simp only [List.getElem?_toArray, List.getElem?_cons_zero, List.getElem?_cons_succ]; rfl
                      case hf_102 => kernel_rfl
                      case hQ_102 => exact fun _ _ _ h => h
                      case hy_102 =>
                        refine Or.inl ⟨by rfl, ?_⟩
                        intro W hSw
                        obtain ⟨q0, q1, q2, q3⟩ := hSw
                        go_simp
                        try with_reducible rfl
                      try simp only [Act.put, List.setIfInBounds_toArray, List.set_cons_zero, List.set_cons_succ]
                      refine wpAnyH_take (i := 18) (oi := ?oi_103) (v := undef) ?hi_103 (by kernel_rfl) ?hf_103 (by kernel_rfl) ?hQ_103 ?hy_103 (by assumption) ?_
                      case hi_103 => simp only [List.getElem?_toArray, List.getElem?_cons_zero, List.getElem?_cons_succ]; rfl
                      case hf_103 => kernel_rfl
                      case hQ_103 => exact fun _ _ _ h => h
                      case hy_103 => exact Or.inr ⟨by rfl, rfl⟩
                      try simp only [Act.put, List.setIfInBounds_toArray, List.set_cons_zero, List.set_cons_succ]
                      refine wpAnyH_take (i := 19) (oi := ?oi_104) (v := undef) ?hi_104 (by kernel_rfl) ?hf_104 (by kernel_rfl) ?hQ_104 ?hy_104 (by assumption) ?_
                      case hi_104 => simp only [List.getElem?_toArray, List.getElem?_cons_zero, List.getElem?_cons_succ]; rfl
                      case hf_104 => kernel_rfl
                      case hQ_104 => exact fun _ _ _ h => h
                      case hy_104 => exact Or.inr ⟨by rfl, rfl⟩
                      try simp only [Act.put, List.setIfInBounds_toArray, List.set_cons_zero, List.set_cons_succ]
                      refine wpAnyH_take (i := 20) (oi := ?oi_105) (v := undef) ?hi_105 (by kernel_rfl) ?hf_105 (by kernel_rfl) ?hQ_105 ?hy_105 (by assumption) ?_
                      case hi_105 => simp only [List.getElem?_toArray, List.getElem?_cons_zero, List.getElem?_cons_succ]; rfl
                      case hf_105 => kernel_rfl
                      case hQ_105 => exact fun _ _ _ h => h
                      case hy_105 => exact Or.inr ⟨by rfl, rfl⟩
                      try simp only [Act.put, List.setIfInBounds_toArray, List.set_cons_zero, List.set_cons_succ]
                      refine wpAnyH_take (i := 21) (oi := ?oi_106) (v := undef) ?hi_106 (by kernel_rfl) ?hf_106 (by kernel_rfl) ?hQ_106 ?hy_106 (by assumption) ?_
                      case hi_106 => simp only [List.getElem?_toArray, List.getElem?_cons_zero, List.getElem?_cons_succ]; rfl
                      case hf_106 => kernel_rfl
                      case hQ_106 => exact fun _ _ _ h => h
                      case hy_106 => exact Or.inr ⟨by rfl, rfl⟩
                      try simp only [Act.put, List.setIfInBounds_toArray, List.set_cons_zero, List.set_cons_succ]
                      refine wpAnyH_take (i := 22) (oi := ?oi_107) (v := undef) ?hi_107 (by kernel_rfl) ?hf_107 (by kernel_rfl) ?hQ_107 ?hy_107 (by assumption) ?_
                      case hi_107 => simp only [List.getElem?_toArray, List.getElem?_cons_zero, List.getElem?_cons_succ]; rfl
                      case hf_107 => kernel_rfl
                      case hQ_107 => exact fun _ _ _ h => h
                      case hy_107 => exact Or.inr ⟨by rfl, rfl⟩
                      try simp only [Act.put, List.setIfInBounds_toArray, List.set_cons_zero, List.set_cons_succ]
                      refine wpAnyH_take (i := 23) (oi := ?oi_108) (v := undef) ?hi_108 (by kernel_rfl) ?hf_108 (by kernel_rfl) ?hQ_108 ?hy_108 (by assumption) ?_
                      case hi_108 => simp only [List.getElem?_toArray, List.getElem?_cons_zero, List.getElem?_cons_succ]; rfl
                      case hf_108 => kernel_rfl
                      case hQ_108 => exact fun _ _ _ h => h
                      case hy_108 => exact Or.inr ⟨by rfl, rfl⟩
                      try simp only [Act.put, List.setIfInBounds_toArray, List.set_cons_zero, List.set_cons_succ]
                      refine wpAnyH_take (i := 24) (oi := ?oi_109) (v := undef) ?hi_109 (by kernel_rfl) ?hf_109 (by kernel_rfl) ?hQ_109 ?hy_109 (by assumption) ?_
                      case hi_109 => simp only [List.getElem?_toArray, List.getElem?_cons_zero, List.getElem?_cons_succ]; rfl
                      case hf_109 => kernel_rfl
                      case hQ_109 => exact fun _ _ _ h => h
                      case hy_109 => exact Or.inr ⟨by rfl, rfl⟩
                      try simp only [Act.put, List.setIfInBounds_toArray, List.set_cons_zero, List.set_cons_succ]
                      refine wpAnyH_take (i := 25) (oi := ?oi_110) (v := undef) ?hi_110 (by kernel_rfl) ?hf_110 (by kernel_rfl) ?hQ_110 ?hy_110 (by assumption) ?_
                      case hi_110 => simp only [List.getElem?_toArray, List.getElem?_cons_zero, List.getElem?_cons_succ]; rfl
                      case hf_110 => kernel_rfl
                      case hQ_110 => exact fun _ _ _ h => h
                      case hy_110 => exact Or.inr ⟨by rfl, rfl⟩
                      try simp only [Act.put, List.setIfInBounds_toArray, List.set_cons_zero, List.set_cons_succ]
                      refine wpAnyH_take (i := 26) (oi := ?oi_111) (v := ?_) ?hi_111 (by kernel_rfl) ?hf_111 (by kernel_rfl) ?hQ_111 ?hy_111 (by assumption) ?_
                      case hi_111 => simp only [List.getElem?_toArray, List.getElem?_cons_zero, List.getElem?_cons_succ]; rfl
                      case hf_111 => kernel_rfl
                      case hQ_111 => exact fun _ _ _ h => h
                      case hy_111 =>
                        refine Or.inl ⟨by rfl, ?_⟩
                        intro W hSw
                        obtain ⟨q0, q1, q2, q3⟩ := hSw
                        go_simp
                        try with_reducible rfl
                      try simp only [Act.put, List.setIfInBounds_toArray, List.set_cons_zero, List.set_cons_succ]
                      refine wpAnyH_take (i := 27) (oi := ?oi_112) (v := ?_) ?hi_112 (by kernel_rfl) ?hf_112 (by kernel_rfl) ?hQ_112 ?hy_112 (by assumption) ?_
                      case hi_112 => simp only [List.getElem?_toArray, List.getElem?_cons_zero, List.getElem?_cons_succ]; rfl
                      case hf_112 => kernel_rfl
                      case hQ_112 => exact fun _ _ _ h => h
                      case hy_112 =>
                        refine Or.inl ⟨by rfl, ?_⟩
                        intro W hSw
                        obtain ⟨q0, q1, q2, q3⟩ := hSw
                        go_simp
                        try with_reducible rfl
                      try simp only [Act.put, List.setIfInBounds_toArray, List.set_cons_zero, List.set_cons_succ]
                      refine wpAnyH_done (by kernel_rfl) ?_ _
                      clear hHeld k0
                      go_wp2
                      go_roundw
                      case rel => exact ⟨k + 1, by omega, by go_num, Lib.hid (below_drew HQ.out)⟩
                      case measure => simp [intOf]; omega
                  · go_wp2
                    go_roundw
                    case rel => exact ⟨i + 1, by omega, by go_num, Lib.hid hWq⟩
                    case measure => simp [intOf]; omega
            · obtain rfl : i = n.sp.length := by omega
              have hu : u = n.sp.length := HU2.out
              go_wp2
              go_ret
              exact ⟨rfl, HB4.out.trans (HW.out.mono HB4.out.size)⟩
    · have HSP := Lib.hid (Spans_no X m hm hq hr0)
      have hr2 : (r == 0) = false := by simpa using hr0
      clear hq hr0
      go_enter Try.func3, Try.ntmps3
      go_wp2_with (first
        | (go_at_call 4; (with_reducible refine HG.out.mono ?_); rintro e w1 ⟨hb, r1, rfl, _, hz⟩
           have e0 : r1 = 0 := hz.2 ⟨by decide, HGF.out⟩
           subst e0
           have HB1 := Lib.hid hb
           clear hb hz)
        | (go_at_call 5; (with_reducible refine (awake_any _).mono ?_); rintro e w2 ⟨rfl, hb⟩
           have HB2 : Hid (Below w.heap.size w w2) := Lib.hid (HB1.out.trans (hb.mono HB1.out.size))
           clear hb)
        | (go_at_call 7; (with_reducible refine (HL.out _ HB2.out).mono ?_); rintro e w3 ⟨hb, v, S, rfl, hmd⟩
           obtain ⟨A3, c3, rfl⟩ := own_slice hmd.1
           have HB3 : Hid (Below w.heap.size w w3) := Lib.hid (HB2.out.trans (hb.mono HB2.out.size))
           have HI3 := Lib.hid (made_ins hmd)
           clear hb hmd)
        | (go_at_call 6
           (with_reducible refine (HSP.out A3 c3 w3 HI3.out).mono ?_)
           rintro e w4 ⟨hb, rfl⟩
           have HB4 : Hid (Below w.heap.size w w4) := Lib.hid (HB3.out.trans (hb.mono HB3.out.size))
           clear hb))
      go_ret
      exact ⟨rfl, HB4.out⟩
  · go_enter Try.func3, Try.ntmps3
    go_wp2_with (first
      | (go_at_call 4; (with_reducible refine HG.out.mono ?_); rintro e w1 ⟨hb, r1, rfl, _, hz⟩
         have e0 : 0 < r1 := by
           rcases Nat.eq_zero_or_pos r1 with h | h
           · exact absurd (hz.1 h).2 hg
           · exact h
         have HB1 := Lib.hid hb
         clear hb hz)
      | (go_at_call 5; (with_reducible refine (awake_any _).mono ?_); rintro e w2 ⟨rfl, hb⟩
         have HB2 : Hid (Below w.heap.size w w2) := Lib.hid (HB1.out.trans (hb.mono HB1.out.size))
         clear hb))
    go_ret
    exact ⟨rfl, HB2.out⟩
end Go.Proofs.Ytggfaalodojjkaa
