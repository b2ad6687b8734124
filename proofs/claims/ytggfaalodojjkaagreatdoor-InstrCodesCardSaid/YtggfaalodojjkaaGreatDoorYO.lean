/-
  Texts of YtggfaalodojjkaaGreatDoorYO.
-/
import Derived.Test.YtggfaalodojjkaaGreatDoorYF
import Derived.Test.YtggfaalodojjkaaGreatDoorYK
import Derived.Test.YtggfaalodojjkaaGreatDoorY7
import Derived.Test.YtggfaalodojjkaaGreatDoorYL
import Derived.BigGuard
import Derived.Deep.RegionHeld3
import Derived.Test.YtggfaalodojjkaaGreatDoorYN
namespace Go.Proofs.YtggfaalodojjkaaGreatDoor
open Go.RowKit
set_option linter.unusedVariables false
set_option linter.unusedSimpArgs false
theorem op_one {c : Int} {r r' : Rw} {i i' : Nat} (h : OpAt c r i) (h' : OpAt c r' i') : r = r' ∧ i = i' := by
  obtain ⟨k, hk⟩ := RowOf.of_op h
  obtain ⟨k', hk'⟩ := RowOf.of_op h'
  obtain ⟨_, rfl⟩ := RowOf.uniq hk hk'
  have h1 := h.2
  have h2 := h'.2
  exact ⟨rfl, by omega⟩
theorem namesOk2 : (OPS.all fun q => !(nameL ((q.1.first + q.2 : Nat) : Int)).isEmpty) = true := by kernel_rfl
theorem name_in {c : Int} {r : Rw} {i : Nat} (h : OpAt c r i) : (!(nameL c).isEmpty) = true := by
  have h1 := List.all_eq_true.1 namesOk2 _ h.1
  have h2 := h.2
  rw [show c = ((r.first + i : Nat) : Int) by omega]
  exact h1
theorem rg_in (f : Nat) (hf : f ≤ 11) (y : Nat) (x : In) (hx : InW x) (hw : f = 11 → (y = 127 ∧ x.cd = 65) ∨ (y = 126 ∧ x.cd ≠ 65)) (h65 : x.cd = 65 → f = 11)
    (q1 : x.a ≤ (bn (f : Int) y).a) (q2 : x.b ≤ (bn (f : Int) y).b) (q3 : 0 ≤ x.al) (q4 : x.al ≤ (bn (f : Int) y).al) (q5 : (x.l.length : Int) ≤ (bn (f : Int) y).lb) (q6 : okW x.l = true) (q7 : f = 1 → x.a = 64 ∨ x.a = 127 ∨ x.a = 126) :
    rgB x (f : Int) = true := by
  obtain ⟨x1, x2, x3, x4, x5⟩ := hx
  obtain ⟨cd, a, b, al, l⟩ := x
  dsimp only at *
  obtain ⟨n, hn⟩ : ∃ n, n = l.length := ⟨_, rfl⟩
  unfold rgB
  dsimp only
  rw [q6, ← hn]
  rw [← hn] at q5
  clear q6 hn x4 x5 x1
  simp only [Bool.and_eq_true, Bool.not_eq_true', Bool.or_eq_false_iff, Bool.and_eq_false_iff, decide_eq_false_iff_not, decide_eq_true_eq, Bool.or_eq_true, Bool.true_and, Bool.and_true, and_true, true_and]
  have hc : f = 0 ∨ f = 1 ∨ f = 2 ∨ f = 3 ∨ f = 4 ∨ f = 5 ∨ f = 6 ∨ f = 7 ∨ f = 8 ∨ f = 9 ∨ f = 10 ∨ f = 11 := by omega
  rcases hc with rfl | rfl | rfl | rfl | rfl | rfl | rfl | rfl | rfl | rfl | rfl | rfl
  case inr.inr.inr.inr.inr.inr.inr.inr.inr.inr.inr =>
    rcases hw rfl with ⟨rfl, e⟩ | ⟨rfl, e⟩ <;> simp [bn] at q1 q2 q4 q5 <;> refine ⟨⟨⟨⟨?_, ?_⟩, ?_⟩, ?_⟩, ?_⟩ <;> omega
  all_goals
    simp [bn] at q1 q2 q4 q5
    refine ⟨⟨⟨⟨?_, ?_⟩, ?_⟩, ?_⟩, ?_⟩ <;> omega
theorem rr_right {x : In} {r : Rw} (h : rightI x r) (hx : InW x) : rrB x = true := by
  obtain ⟨i, ho⟩ := right_op h
  have hbk : r.form = 1 → x.a = 64 ∨ x.a = 127 ∨ x.a = 126 := by
    intro h1
    obtain ⟨k, hk, hi, hb⟩ := h
    unfold riB at hb
    simp only [Bool.and_eq_true, h1, decide_true, Bool.true_and, Bool.not_not] at hb
    have h2 := hb.2
    unfold bkB at h2
    simpa [or_assoc] using h2
  have hok : okW x.l = true := by
    obtain ⟨k, hk, hi, hb⟩ := h
    unfold riB wiB at hb
    simp only [Bool.and_eq_true] at hb
    exact hb.1.2
  obtain ⟨hm, _, ba, bb, b0, bl, bn_, _⟩ := right_facts h
  unfold rrB
  rw [name_in ho, form_in ho, Bool.true_and]
  refine rg_in r.form (row_small r hm).2.2 (r.gives.getD 0 0) x hx (fun e => ?_) (fun e => ?_) ba bb b0 bl bn_ hok hbk
  · rcases wide_in ho e with ⟨q, p⟩ | ⟨q, p⟩
    · exact .inl ⟨by rw [q]; rfl, p⟩
    · exact .inr ⟨by rw [q]; rfl, p⟩
  · have := form_in ho
    rw [e] at this
    have h65 : formL 65 = 11 := by decide
    omega
theorem putL_len : ∀ N : List Int, (∀ z ∈ N, W64 z) → (putL N).length ≤ 10 * N.length
  | [], _ => Nat.le_refl _
  | z :: N, h => by
    have ih := putL_len N (fun q hq => h q (List.mem_cons_of_mem _ hq))
    have hz := h z (List.mem_cons_self ..)
    unfold W64 at hz
    have := Leb.szU_le 9 z.toNat (by omega)
    show (Leb.enc _ _ ++ putL N).length ≤ _
    rw [List.length_append, enc_len, List.length_cons]
    omega
theorem encL_len {x : In} {r : Rw} (h : rightI x r) (hx : InW x) : (encL x r).length ≤ 20000 := by
  obtain ⟨hm, hcd, _, _, _, _, _, _⟩ := right_facts h
  obtain ⟨_, _, _, _, b0, b31, bln, _⟩ := right_bn h hx
  unfold encL
  rw [List.length_append]
  have h1 := head_len x.cd hcd.2
  split
  · have := sgn_in (btT (r.gives.getD 0 0)) x.a.toNat (by have := hx.a; omega)
    have e : conI x r = Wd.sgn (btT (r.gives.getD 0 0)) x.a.toNat := rfl
    have h2 := Leb.szS_le 9 (conI x r) (by rw [e]; omega) (by rw [e]; omega)
    rw [enc_len]
    omega
  · have h2 : (putL (numI x r.form)).length ≤ 10 * (numI x r.form).length := by
      refine putL_len _ ?_
      intro z hz
      unfold W64
      have ha := hx.a
      have hb := hx.b
      have hl := hx.l
      unfold numI at hz
      split at hz
      · simp at hz
      · split at hz
        · simp only [List.mem_append, List.mem_cons, List.not_mem_nil, or_false] at hz
          rcases hz with (rfl | hz) | rfl
          · omega
          · exact hl z hz
          · exact ha
        · split at hz
          · simp only [List.mem_cons, List.not_mem_nil, or_false] at hz
            rcases hz with rfl | rfl
            · exact ha
            · exact hb
          · split at hz
            · split at hz <;> simp only [List.mem_cons, List.not_mem_nil, or_false] at hz
              · rcases hz with rfl | rfl
                · omega
                · exact hb
              · rcases hz with rfl | rfl | rfl
                · omega
                · exact ha
                · exact hb
            · simp only [List.mem_cons, List.not_mem_nil, or_false] at hz
              rw [hz]; exact ha
    have h3 : (numI x r.form).length ≤ 200 := by
      unfold numI
      split
      · simp
      · split
        · simp; omega
        · split
          · simp
          · split
            · split <;> simp
            · simp
    omega
/-- what is read of a right instruction's bytes -/
theorem good_enc {x : In} {r : Rw} (h : rightI x r) (hx : InW x) {G : In × Nat × Nat} (hG : GoodG (encL x r) (encL x r).length (cdF (encL x r) (encL x r).length 0 0) G) : G = (x, (encL x r).length, 0) := by
  obtain ⟨p, i, ho, e1, e2, e3⟩ := dec_enc x r h hx
  rw [e1] at hG
  rcases hG with ⟨r', i', ho', e⟩ | ⟨hn, _⟩
  · obtain ⟨rfl, rfl⟩ := op_one ho ho'
    rw [e, e2, e3]
  · exact absurd ho (hn _ _)
theorem results20 : Tryz.f20.results = #[.cell 2 25] := by kernel_rfl
set_option maxHeartbeats 1000000 in
set_option maxRecDepth 100000 in
theorem Of_ok (cd a b al : Int) (A : Option Addr) (n c : Nat) (hnc : n ≤ c) (hc : c ≤ 9223372036854775807) (w : World) : Calls Tryz.prog 20 #[.agg #[.int .i64 cd, .int .u64 a, .int .u64 b, .int .i64 al, .slice A n c]] w fun e w' => e = .returned (.agg #[.int .i64 cd, .int .u64 a, .int .u64 b, .int .i64 al, .slice A n c]) ∧ Below w.heap.size w w' := by
  have HB := Lib.hid ((Below.refl w.heap.size w).alloc (Nat.le_refl _) (.cells #[.int .i64 cd, .int .u64 a, .int .u64 b, .int .i64 al, .slice A n c] 30))
  go_enter Tryz.func20, Tryz.ntmps20
  go_wp2
  refine bodyPost_ret (v := .agg #[.int .i64 cd, .int .u64 a, .int .u64 b, .int .i64 al, .slice A n c]) (results_cell_row results20 _ _ (w.heap.size + 1) 25 _ (0, 0) _ rfl (heap2 w _ _) Tryz.underlying25 rfl (by kernel_rfl)) rfl ?_
  exact ⟨rfl, HB.out.alloc HB.out.size _⟩
end Go.Proofs.YtggfaalodojjkaaGreatDoor
namespace Go.Proofs.YtggfaalodojjkaaGreatDoor
open Go.RowKit
set_option linter.unusedVariables false
set_option linter.unusedSimpArgs false
set_option maxHeartbeats 8000000 in
set_option maxRecDepth 100000 in
theorem codes_walk (cd a b al : Int) (A : Option Addr) (n c : Nat) (l : List Int) (hln : l.length = n) (hn : n ≤ 120) (hnc : n ≤ c) (hc : c ≤ 9223372036854775807) (w : World)
    (R : Bool) (L : List Nat) (hL : L.length ≤ 20000) (G1 : Nat → Nat → World → Prop)
    (hG1 : ∀ g cp W V, G1 g cp W → Below W.heap.size W V → G1 g cp V) (h2 : 2 ≤ w.heap.size)
    (hT : ∀ W, Below w.heap.size w W → Tb W ∧ Tab W 1 13 2 forL)
    (hA : ∀ W, Below w.heap.size w W → Calls Tryz.prog 8 #[] W fun e w' => e = .returned (.bool true) ∧ Below W.heap.size W w')
    (hT1 : ∀ W, Below w.heap.size w W → Calls Tryz.prog 9 #[.agg #[.int .i64 cd, .int .u64 a, .int .u64 b, .int .i64 al, .slice A n c]] W fun e w' => ∃ g cp, n ≤ cp ∧ cp ≤ 9223372036854775807 ∧ e = .returned (.agg #[.int .i64 cd, .int .u64 a, .int .u64 b, .int .i64 al, .slice (some ⟨g, 0, none⟩) n cp]) ∧ Below W.heap.size W w' ∧ G1 g cp w')
    (hE : R = true → ∀ g cp W, Below w.heap.size w W → G1 g cp W → Calls Tryz.prog 10 #[.agg #[.int .i64 cd, .int .u64 a, .int .u64 b, .int .i64 al, .slice (some ⟨g, 0, none⟩) n cp]] W (EnP L W))
    (hE0 : R = false → ∀ g cp W, Below w.heap.size w W → G1 g cp W → Calls Tryz.prog 10 #[.agg #[.int .i64 cd, .int .u64 a, .int .u64 b, .int .i64 al, .slice (some ⟨g, 0, none⟩) n cp]] W fun e w' => e = .returned (.tuple #[.slice none 0 0, .int .i64 1]) ∧ Below W.heap.size W w')
    (hR1 : ∀ W, Below w.heap.size w W → Calls Tryz.prog 11 #[.agg #[.int .i64 cd, .int .u64 a, .int .u64 b, .int .i64 al, .slice A n c]] W fun e w' => e = .returned (.bool R) ∧ Below W.heap.size W w')
    (hR2 : ∀ g cp W, Below w.heap.size w W → G1 g cp W → Calls Tryz.prog 12 #[.agg #[.int .i64 cd, .int .u64 a, .int .u64 b, .int .i64 al, .slice (some ⟨g, 0, none⟩) n cp]] W fun e w' => e = .returned (.bool R) ∧ Below W.heap.size W w')
    (hI : ∀ g cp g2 cp2 W, Below w.heap.size w W → G1 g cp W → G1 g2 cp2 W → Calls Tryz.prog 13 #[.agg #[.int .i64 cd, .int .u64 a, .int .u64 b, .int .i64 al, .slice (some ⟨g, 0, none⟩) n cp], .agg #[.int .i64 cd, .int .u64 a, .int .u64 b, .int .i64 al, .slice (some ⟨g2, 0, none⟩) n cp2]] W fun e w' => e = .returned (.bool true) ∧ Below W.heap.size W w')
    (hP : R = false → ∀ g cp W, Below w.heap.size w W → G1 g cp W → Calls Tryz.prog 14 #[.agg #[.int .i64 cd, .int .u64 a, .int .u64 b, .int .i64 al, .slice (some ⟨g, 0, none⟩) n cp]] W fun e w' => e = .returned (.string ⟨#[]⟩) ∧ Below W.heap.size W w')
    (hE18 : R = true → ∀ W, Below w.heap.size w W → Calls Tryz.prog 18 #[.agg #[.int .i64 cd, .int .u64 a, .int .u64 b, .int .i64 al, .slice A n c]] W (EnR L W))
    (hGd : R = true → ∀ G, GoodG L L.length (cdF L L.length 0 0) G → G = (⟨cd, a, b, al, l⟩, L.length, 0))
    (hS : R = true → ∀ A7 c7 W, Below w.heap.size w W → Sl W A7 n c7 l → Calls Tryz.prog 19 #[.agg #[.int .i64 cd, .int .u64 a, .int .u64 b, .int .i64 al, .slice A7 n c7], .agg #[.int .i64 cd, .int .u64 a, .int .u64 b, .int .i64 al, .slice A n c]] W fun e w' => e = .returned (.bool true) ∧ Below W.heap.size W w') :
    Calls Tryz.prog 3 #[.agg #[.int .i64 cd, .int .u64 a, .int .u64 b, .int .i64 al, .slice A n c]] w fun e w' => e = .returned (.bool true) ∧ Below w.heap.size w w' := by
  obtain ⟨W0, hW0⟩ : ∃ V, V = w.alloc (.cells #[.int .i64 cd, .int .u64 a, .int .u64 b, .int .i64 al, .slice A n c] 25) := ⟨_, rfl⟩
  obtain ⟨bx, hbx⟩ : ∃ x, x = w.heap.size := ⟨_, rfl⟩
  have hb0 : Below w.heap.size w W0 := by rw [hW0]; exact (Below.refl _ _).alloc (Nat.le_refl _) _
  have hX0 : Blk W0 bx 25 #[.int .i64 cd, .int .u64 a, .int .u64 b, .int .i64 al, .slice A n c] := by rw [hW0, hbx]; exact Blk.new w 25 _
  have HK : Hid (∀ V, Below W0.heap.size W0 V → V.cell? ⟨bx, 0, none⟩ = some (.int .i64 cd) ∧ V.cell? ⟨bx, 1, none⟩ = some (.int .u64 a) ∧ V.cell? ⟨bx, 2, none⟩ = some (.int .u64 b) ∧ V.cell? ⟨bx, 3, none⟩ = some (.int .i64 al) ∧ V.cell? ⟨bx, 4, none⟩ = some (.slice A n c)) := Lib.hid (fun V hV => by
    have h1 := hX0.below hV hX0.lt
    exact ⟨h1.cell 0, h1.cell 1, h1.cell 2, h1.cell 3, h1.cell 4⟩)
  have HB0 := Lib.hid hb0
  have HW0 := Lib.hid hW0
  have HBX := Lib.hid hbx
  have hsz0 : W0.heap.size = w.heap.size + 1 := by rw [hW0]; simp
  have HA := Lib.hid hA
  have HT := Lib.hid hT
  have HT1 := Lib.hid hT1
  unfold EnP at hE
  unfold EnR at hE18
  have HE := Lib.hid hE
  have HE0 := Lib.hid hE0
  have HR1 := Lib.hid hR1
  have HR2 := Lib.hid hR2
  have HI := Lib.hid hI
  have HP := Lib.hid hP
  have HE18 := Lib.hid hE18
  have HGd := Lib.hid hGd
  have HS := Lib.hid hS
  have HG1 := Lib.hid hG1
  obtain ⟨z0, z1, z2, z3, z4⟩ := HK.out W0 (Below.refl _ _)
  clear hb0 hX0 hW0 hA hT hT1 hE hE0 hR1 hR2 hI hP hE18 hGd hS hG1
  rw [← hbx] at hsz0 h2
  clear hbx
  go_enter Tryz.func3, Tryz.ntmps3
  go_upto_region 1 with fail
  rw [← HBX.out]
  rw [← HW0.out]
  go_upto_region 3 with (go_at_call 8; with_reducible refine (HA.out W0 HB0.out).mono ?_; rintro e w1 ⟨rfl, hb1⟩; have HB1 := Lib.hid hb1; have HV1 : Hid (Below w.heap.size w w1) := Lib.hid (HB0.out.trans (hb1.mono HB0.out.size)); obtain ⟨y0, y1, y2, y3, y4⟩ := HK.out w1 hb1; clear z0 z1 z2 z3 z4 hb1)
  cases R
  · have FE0 := Lib.hid (HE0.out rfl)
    have FP := Lib.hid (HP.out rfl)
    clear HE HE18 HGd HS HE0 HP
    go_upto_region 4 with (first
      | (go_at_call 9; with_reducible refine (HT1.out w1 HV1.out).mono ?_; rintro e w2 ⟨g1, cp1, hp1, hq1, rfl, hb2, hg1⟩; have HG2 := Lib.hid hg1; have HB2 : Hid (Below W0.heap.size W0 w2) := Lib.hid (HB1.out.trans (hb2.mono HB1.out.size)); have HV2 : Hid (Below w.heap.size w w2) := Lib.hid (HV1.out.trans (hb2.mono HV1.out.size)); clear y0 y1 y2 y3 y4; obtain ⟨x0, x1, x2, x3, x4⟩ := HK.out w2 HB2.out; clear hb2 hg1)
      | (go_at_call 10; with_reducible refine (FE0.out _ _ _ HV2.out HG2.out).mono ?_; rintro e w3 ⟨rfl, hb3⟩; have HB3 : Hid (Below W0.heap.size W0 w3) := Lib.hid (HB2.out.trans (hb3.mono HB2.out.size)); have HV3 : Hid (Below w.heap.size w w3) := Lib.hid (HV2.out.trans (hb3.mono HV2.out.size)); clear x0 x1 x2 x3 x4; obtain ⟨p0, p1, p2, p3, p4⟩ := HK.out w3 HB3.out; clear hb3))
    go_upto_region 5 with (go_at_call 11; with_reducible refine (HR1.out w3 HV3.out).mono ?_; rintro e w4 ⟨rfl, hb4⟩; have HB4 : Hid (Below W0.heap.size W0 w4) := Lib.hid (HB3.out.trans (hb4.mono HB3.out.size)); have HV4 : Hid (Below w.heap.size w w4) := Lib.hid (HV3.out.trans (hb4.mono HV3.out.size)); clear p0 p1 p2 p3 p4; obtain ⟨m0, m1, m2, m3, m4⟩ := HK.out w4 HB4.out; clear hb4)
    have HBc0 : Hid (Below W0.heap.size W0 w4.drew) := Lib.hid (HB4.out.trans ((below_drew (Below.refl _ _) : Below w4.heap.size w4 w4.drew).mono HB4.out.size))
    have HVc0 : Hid (Below w.heap.size w w4.drew) := Lib.hid (HV4.out.trans ((below_drew (Below.refl _ _) : Below w4.heap.size w4 w4.drew).mono HV4.out.size))
    have hks0 := HK.out _ HBc0.out
    clear m0 m1 m2 m3 m4
    refine wp_region_held_drew (S := (fun W => W.cell? ⟨bx, 0, none⟩ = some (.int .i64 cd) ∧ W.cell? ⟨bx, 1, none⟩ = some (.int .u64 a) ∧ W.cell? ⟨bx, 2, none⟩ = some (.int .u64 b) ∧ W.cell? ⟨bx, 3, none⟩ = some (.int .i64 al) ∧ W.cell? ⟨bx, 4, none⟩ = some (.slice A n c))) (by kernel_rfl) hks0 (fun hHeld => ?_)
    refine wpAnyH_take (i := 0) (oi := ?oi_1) (v := ?_) ?hi_1 (by kernel_rfl) ?hf_1 (by kernel_rfl) ?hQ_1 ?hy_1 (by assumption) ?_
    case hi_1 => simp only [List.getElem?_toArray, List.getElem?_cons_zero, List.getElem?_cons_succ] <;> rfl
    case hf_1 => kernel_rfl
    case hQ_1 => exact fun _ _ _ h => h
    case hy_1 =>
      refine Or.inl ⟨by rfl, ?_⟩
      intro W hSw
      obtain ⟨q0, q1, q2, q3, q4⟩ := hSw
      go_simp
      try with_reducible rfl
    try simp only [Act.put, List.setIfInBounds_toArray, List.set_cons_zero, List.set_cons_succ]
    refine wpAnyH_take (i := 3) (oi := ?oi_2) (v := ?_) ?hi_2 (by kernel_rfl) ?hf_2 (by kernel_rfl) ?hQ_2 ?hy_2 (by assumption) ?_
    case hi_2 => simp only [List.getElem?_toArray, List.getElem?_cons_zero, List.getElem?_cons_succ] <;> rfl
    case hf_2 => kernel_rfl
    case hQ_2 => exact fun _ _ _ h => h
    case hy_2 =>
      refine Or.inl ⟨by rfl, ?_⟩
      intro W hSw
      obtain ⟨q0, q1, q2, q3, q4⟩ := hSw
      go_simp
      try with_reducible rfl
    try simp only [Act.put, List.setIfInBounds_toArray, List.set_cons_zero, List.set_cons_succ]
    refine wpAnyH_ready (rs := [1]) (by kernel_rfl) (by simp) ?_
    refine AllReadyH.cons (o := ?oi_13_0) ?hi_13_0 (fun K hK => ?_) AllReadyH.nil
    case hi_13_0 => simp only [List.getElem?_toArray, List.getElem?_cons_zero, List.getElem?_cons_succ]; try rfl
    go_simp
    (go_at_call 9
     refine (HT1.out _ HVc0.out).mono ?_
     rintro e v1 ⟨gr, cpr, hpr, hqr, rfl, hbr, hgr⟩
     have HGcr := Lib.hid hgr
     have HBc1 : Hid (Below W0.heap.size W0 v1) := Lib.hid (HBc0.out.trans (hbr.mono HBc0.out.size))
     have HVc1 : Hid (Below w.heap.size w v1) := Lib.hid (HVc0.out.trans (hbr.mono HVc0.out.size))
     have hk1 := HK.out _ HBc1.out
     clear hbr hgr)
    refine hK.out _ _ hk1 (fun hHeld => ?_)
    clear hK K
    try simp only [Act.put, List.setIfInBounds_toArray, List.set_cons_zero, List.set_cons_succ]
    refine wpAnyH_ready (rs := [2]) (by kernel_rfl) (by simp) ?_
    refine AllReadyH.cons (o := ?oi_12_0) ?hi_12_0 (fun K hK => ?_) AllReadyH.nil
    case hi_12_0 => simp only [List.getElem?_toArray, List.getElem?_cons_zero, List.getElem?_cons_succ]; try rfl
    go_simp
    (go_at_call 12
     refine (HR2.out _ _ _ HVc1.out HGcr.out).mono ?_
     rintro e v2 ⟨rfl, hbz2⟩
     have HBc2 : Hid (Below W0.heap.size W0 v2) := Lib.hid (HBc1.out.trans (hbz2.mono HBc1.out.size))
     have HVc2 : Hid (Below w.heap.size w v2) := Lib.hid (HVc1.out.trans (hbz2.mono HVc1.out.size))
     have hk2 := HK.out _ HBc2.out
     clear hbz2)
    refine hK.out _ _ hk2 (fun hHeld => ?_)
    clear hK K
    try simp only [Act.put, List.setIfInBounds_toArray, List.set_cons_zero, List.set_cons_succ]
    refine wpAnyH_take (i := 4) (oi := ?oi_3) (v := ?_) ?hi_3 (by kernel_rfl) ?hf_3 (by kernel_rfl) ?hQ_3 ?hy_3 (by assumption) ?_
    case hi_3 => simp only [List.getElem?_toArray, List.getElem?_cons_zero, List.getElem?_cons_succ] <;> rfl
    case hf_3 => kernel_rfl
    case hQ_3 => exact fun _ _ _ h => h
    case hy_3 =>
      refine Or.inl ⟨by rfl, ?_⟩
      intro W hSw
      obtain ⟨q0, q1, q2, q3, q4⟩ := hSw
      go_simp
      try with_reducible rfl
    try simp only [Act.put, List.setIfInBounds_toArray, List.set_cons_zero, List.set_cons_succ]
    refine wpAnyH_take (i := 5) (oi := ?oi_4) (v := ?_) ?hi_4 (by kernel_rfl) ?hf_4 (by kernel_rfl) ?hQ_4 ?hy_4 (by assumption) ?_
    case hi_4 => simp only [List.getElem?_toArray, List.getElem?_cons_zero, List.getElem?_cons_succ] <;> rfl
    case hf_4 => kernel_rfl
    case hQ_4 => exact fun _ _ _ h => h
    case hy_4 =>
      refine Or.inl ⟨by rfl, ?_⟩
      intro W hSw
      obtain ⟨q0, q1, q2, q3, q4⟩ := hSw
      go_simp
      try with_reducible rfl
    try simp only [Act.put, List.setIfInBounds_toArray, List.set_cons_zero, List.set_cons_succ]
    refine wpAnyH_take (i := 6) (oi := ?oi_5) (v := ?_) ?hi_5 (by kernel_rfl) ?hf_5 (by kernel_rfl) ?hQ_5 ?hy_5 (by assumption) ?_
    case hi_5 => simp only [List.getElem?_toArray, List.getElem?_cons_zero, List.getElem?_cons_succ] <;> rfl
    case hf_5 => kernel_rfl
    case hQ_5 => exact fun _ _ _ h => h
    case hy_5 =>
      refine Or.inl ⟨by rfl, ?_⟩
      intro W hSw
      obtain ⟨q0, q1, q2, q3, q4⟩ := hSw
      go_simp
      try with_reducible rfl
    try simp only [Act.put, List.setIfInBounds_toArray, List.set_cons_zero, List.set_cons_succ]
    refine wpAnyH_take (i := 8) (oi := ?oi_6) (v := ?_) ?hi_6 (by kernel_rfl) ?hf_6 (by kernel_rfl) ?hQ_6 ?hy_6 (by assumption) ?_
    case hi_6 => simp only [List.getElem?_toArray, List.getElem?_cons_zero, List.getElem?_cons_succ] <;> rfl
    case hf_6 => kernel_rfl
    case hQ_6 => exact fun _ _ _ h => h
    case hy_6 =>
      refine Or.inl ⟨by rfl, ?_⟩
      intro W hSw
      obtain ⟨q0, q1, q2, q3, q4⟩ := hSw
      go_simp
      try with_reducible rfl
    try simp only [Act.put, List.setIfInBounds_toArray, List.set_cons_zero, List.set_cons_succ]
    refine wpAnyH_ready (rs := [7]) (by kernel_rfl) (by simp) ?_
    refine AllReadyH.cons (o := ?oi_11_0) ?hi_11_0 (fun K hK => ?_) AllReadyH.nil
    case hi_11_0 => simp only [List.getElem?_toArray, List.getElem?_cons_zero, List.getElem?_cons_succ]; try rfl
    go_simp
    (go_at_call 9
     refine (HT1.out _ HVc2.out).mono ?_
     rintro e v3 ⟨gs, cps, hps, hqs, rfl, hbs, hgs⟩
     have HGcs := Lib.hid hgs
     have HBc3 : Hid (Below W0.heap.size W0 v3) := Lib.hid (HBc2.out.trans (hbs.mono HBc2.out.size))
     have HVc3 : Hid (Below w.heap.size w v3) := Lib.hid (HVc2.out.trans (hbs.mono HVc2.out.size))
     have hk3 := HK.out _ HBc3.out
     clear hbs hgs)
    refine hK.out _ _ hk3 (fun hHeld => ?_)
    clear hK K
    try simp only [Act.put, List.setIfInBounds_toArray, List.set_cons_zero, List.set_cons_succ]
    refine wpAnyH_ready (rs := [9]) (by kernel_rfl) (by simp) ?_
    refine AllReadyH.cons (o := ?oi_10_0) ?hi_10_0 (fun K hK => ?_) AllReadyH.nil
    case hi_10_0 => simp only [List.getElem?_toArray, List.getElem?_cons_zero, List.getElem?_cons_succ]; try rfl
    go_simp
    (go_at_call 9
     refine (HT1.out _ HVc3.out).mono ?_
     rintro e v4 ⟨gt, cpt, hpt, hqt, rfl, hbt, hgt⟩
     have HGct := Lib.hid hgt
     have HBc4 : Hid (Below W0.heap.size W0 v4) := Lib.hid (HBc3.out.trans (hbt.mono HBc3.out.size))
     have HVc4 : Hid (Below w.heap.size w v4) := Lib.hid (HVc3.out.trans (hbt.mono HVc3.out.size))
     have hk4 := HK.out _ HBc4.out
     have HGs2 := Lib.hid (HG1.out _ _ _ _ HGcs.out hbt)
     clear hbt hgt)
    refine hK.out _ _ hk4 (fun hHeld => ?_)
    clear hK K
    try simp only [Act.put, List.setIfInBounds_toArray, List.set_cons_zero, List.set_cons_succ]
    have HGX := HGs2
    have HGY := HGct
    refine wpAnyH_ready (rs := [10]) (by kernel_rfl) (by simp) ?_
    refine AllReadyH.cons (o := ?oi_9_0) ?hi_9_0 (fun K hK => ?_) AllReadyH.nil
    case hi_9_0 => simp only [List.getElem?_toArray, List.getElem?_cons_zero, List.getElem?_cons_succ]; try rfl
    go_simp
    (go_at_call 13
     refine (HI.out _ _ _ _ _ HVc4.out HGX.out HGY.out).mono ?_
     rintro e v5 ⟨rfl, hbz5⟩
     have HBc5 : Hid (Below W0.heap.size W0 v5) := Lib.hid (HBc4.out.trans (hbz5.mono HBc4.out.size))
     have HVc5 : Hid (Below w.heap.size w v5) := Lib.hid (HVc4.out.trans (hbz5.mono HVc4.out.size))
     have hk5 := HK.out _ HBc5.out
     clear hbz5)
    refine hK.out _ _ hk5 (fun hHeld => ?_)
    clear hK K
    try simp only [Act.put, List.setIfInBounds_toArray, List.set_cons_zero, List.set_cons_succ]
    refine wpAnyH_take (i := 11) (oi := ?oi_7) (v := ?_) ?hi_7 (by kernel_rfl) ?hf_7 (by kernel_rfl) ?hQ_7 ?hy_7 (by assumption) ?_
    case hi_7 => simp only [List.getElem?_toArray, List.getElem?_cons_zero, List.getElem?_cons_succ] <;> rfl
    case hf_7 => kernel_rfl
    case hQ_7 => exact fun _ _ _ h => h
    case hy_7 =>
      refine Or.inl ⟨by rfl, ?_⟩
      intro W hSw
      obtain ⟨q0, q1, q2, q3, q4⟩ := hSw
      go_simp
      try with_reducible rfl
    try simp only [Act.put, List.setIfInBounds_toArray, List.set_cons_zero, List.set_cons_succ]
    refine wpAnyH_take (i := 12) (oi := ?oi_8) (v := ?_) ?hi_8 (by kernel_rfl) ?hf_8 (by kernel_rfl) ?hQ_8 ?hy_8 (by assumption) ?_
    case hi_8 => simp only [List.getElem?_toArray, List.getElem?_cons_zero, List.getElem?_cons_succ] <;> rfl
    case hf_8 => kernel_rfl
    case hQ_8 => exact fun _ _ _ h => h
    case hy_8 =>
      refine Or.inl ⟨by rfl, ?_⟩
      intro W hSw
      obtain ⟨q0, q1, q2, q3, q4⟩ := hSw
      go_simp
      try with_reducible rfl
    try simp only [Act.put, List.setIfInBounds_toArray, List.set_cons_zero, List.set_cons_succ]
    refine wpAnyH_done (by kernel_rfl) ?_ _
    clear hHeld
    try simp only [Exit.inBlock, Exit.then]
    have HBr := HBc5
    have HVr := HVc5
    obtain ⟨m0, m1, m2, m3, m4⟩ := hk5
    clear hks0 hk1 hk2 hk3 hk4
    go_upto_region 8 with fail
    go_wp2_with (first
      | (go_at_call 9; with_reducible refine (HT1.out _ HVr.out).mono ?_; rintro e w11 ⟨g11, cp11, hp11, hq11, rfl, hb11, hg11⟩; have HG11 := Lib.hid hg11; have HB11 : Hid (Below W0.heap.size W0 w11) := Lib.hid (HBr.out.trans (hb11.mono HBr.out.size)); have HV11 : Hid (Below w.heap.size w w11) := Lib.hid (HVr.out.trans (hb11.mono HVr.out.size)); clear m0 m1 m2 m3 m4; obtain ⟨x0, x1, x2, x3, x4⟩ := HK.out w11 HB11.out; clear hb11 hg11)
      | (go_at_call 14; with_reducible refine (FP.out _ _ _ HV11.out HG11.out).mono ?_; rintro e w12 ⟨rfl, hb12⟩; have HB12 : Hid (Below W0.heap.size W0 w12) := Lib.hid (HB11.out.trans (hb12.mono HB11.out.size)); have HV12 : Hid (Below w.heap.size w w12) := Lib.hid (HV11.out.trans (hb12.mono HV11.out.size)); clear x0 x1 x2 x3 x4; obtain ⟨p0, p1, p2, p3, p4⟩ := HK.out w12 HB12.out; clear hb12))
    go_ret
    exact ⟨rfl, HV12.out⟩
  · have FE := Lib.hid (HE.out rfl)
    have FE18 := Lib.hid (HE18.out rfl)
    have FGd := Lib.hid (HGd.out rfl)
    have FS := Lib.hid (HS.out rfl)
    clear HE0 HP HE HE18 HGd HS
    go_upto_region 4 with (first
      | (go_at_call 9; with_reducible refine (HT1.out w1 HV1.out).mono ?_; rintro e w2 ⟨g1, cp1, hp1, hq1, rfl, hb2, hg1⟩; have HG2 := Lib.hid hg1; have HB2 : Hid (Below W0.heap.size W0 w2) := Lib.hid (HB1.out.trans (hb2.mono HB1.out.size)); have HV2 : Hid (Below w.heap.size w w2) := Lib.hid (HV1.out.trans (hb2.mono HV1.out.size)); clear y0 y1 y2 y3 y4; obtain ⟨x0, x1, x2, x3, x4⟩ := HK.out w2 HB2.out; clear hb2 hg1)
      | (go_at_call 10; with_reducible refine (FE.out _ _ _ HV2.out HG2.out).mono ?_; rintro e w3 ⟨A3, n3, c3, rfl, hy3, hn3, hb3⟩; have HY3 := Lib.hid hy3; have HB3 : Hid (Below W0.heap.size W0 w3) := Lib.hid (HB2.out.trans (hb3.mono HB2.out.size)); have HV3 : Hid (Below w.heap.size w w3) := Lib.hid (HV2.out.trans (hb3.mono HV2.out.size)); clear x0 x1 x2 x3 x4; obtain ⟨p0, p1, p2, p3, p4⟩ := HK.out w3 HB3.out; clear hb3 hy3))
    subst hn3
    have hy3c := HY3.out.2.2.1
    have hy3m := HY3.out.2.2.2.1
    unfold maxLen at hy3m
    go_upto_region 5 with (go_at_call 11; with_reducible refine (HR1.out w3 HV3.out).mono ?_; rintro e w4 ⟨rfl, hb4⟩; have HY4 := Lib.hid (HY3.out.kept hb4); have HB4 : Hid (Below W0.heap.size W0 w4) := Lib.hid (HB3.out.trans (hb4.mono HB3.out.size)); have HV4 : Hid (Below w.heap.size w w4) := Lib.hid (HV3.out.trans (hb4.mono HV3.out.size)); clear p0 p1 p2 p3 p4; obtain ⟨m0, m1, m2, m3, m4⟩ := HK.out w4 HB4.out; clear hb4 HY3)
    have HBc0 : Hid (Below W0.heap.size W0 w4.drew) := Lib.hid (HB4.out.trans ((below_drew (Below.refl _ _) : Below w4.heap.size w4 w4.drew).mono HB4.out.size))
    have HVc0 : Hid (Below w.heap.size w w4.drew) := Lib.hid (HV4.out.trans ((below_drew (Below.refl _ _) : Below w4.heap.size w4 w4.drew).mono HV4.out.size))
    have HYc0 := Lib.hid (HY4.out.kept (below_drew (Below.refl _ _) : Below w4.heap.size w4 w4.drew))
    have hks0 := HK.out _ HBc0.out
    clear m0 m1 m2 m3 m4
    refine wp_region_held_drew (S := (fun W => W.cell? ⟨bx, 0, none⟩ = some (.int .i64 cd) ∧ W.cell? ⟨bx, 1, none⟩ = some (.int .u64 a) ∧ W.cell? ⟨bx, 2, none⟩ = some (.int .u64 b) ∧ W.cell? ⟨bx, 3, none⟩ = some (.int .i64 al) ∧ W.cell? ⟨bx, 4, none⟩ = some (.slice A n c))) (by kernel_rfl) hks0 (fun hHeld => ?_)
    refine wpAnyH_take (i := 0) (oi := ?oi_40) (v := ?_) ?hi_40 (by kernel_rfl) ?hf_40 (by kernel_rfl) ?hQ_40 ?hy_40 (by assumption) ?_
    case hi_40 => simp only [List.getElem?_toArray, List.getElem?_cons_zero, List.getElem?_cons_succ] <;> rfl
    case hf_40 => kernel_rfl
    case hQ_40 => exact fun _ _ _ h => h
    case hy_40 =>
      refine Or.inl ⟨by rfl, ?_⟩
      intro W hSw
      obtain ⟨q0, q1, q2, q3, q4⟩ := hSw
      go_simp
      try with_reducible rfl
    try simp only [Act.put, List.setIfInBounds_toArray, List.set_cons_zero, List.set_cons_succ]
    refine wpAnyH_take (i := 3) (oi := ?oi_41) (v := ?_) ?hi_41 (by kernel_rfl) ?hf_41 (by kernel_rfl) ?hQ_41 ?hy_41 (by assumption) ?_
    case hi_41 => simp only [List.getElem?_toArray, List.getElem?_cons_zero, List.getElem?_cons_succ] <;> rfl
    case hf_41 => kernel_rfl
    case hQ_41 => exact fun _ _ _ h => h
    case hy_41 =>
      refine Or.inl ⟨by rfl, ?_⟩
      intro W hSw
      obtain ⟨q0, q1, q2, q3, q4⟩ := hSw
      go_simp
      try with_reducible rfl
    try simp only [Act.put, List.setIfInBounds_toArray, List.set_cons_zero, List.set_cons_succ]
    refine wpAnyH_ready (rs := [1]) (by kernel_rfl) (by simp) ?_
    refine AllReadyH.cons (o := ?oi_52_0) ?hi_52_0 (fun K hK => ?_) AllReadyH.nil
    case hi_52_0 => simp only [List.getElem?_toArray, List.getElem?_cons_zero, List.getElem?_cons_succ]; try rfl
    go_simp
    (go_at_call 9
     refine (HT1.out _ HVc0.out).mono ?_
     rintro e v1 ⟨gr, cpr, hpr, hqr, rfl, hbr, hgr⟩
     have HGcr := Lib.hid hgr
     have HBc1 : Hid (Below W0.heap.size W0 v1) := Lib.hid (HBc0.out.trans (hbr.mono HBc0.out.size))
     have HVc1 : Hid (Below w.heap.size w v1) := Lib.hid (HVc0.out.trans (hbr.mono HVc0.out.size))
     have hk1 := HK.out _ HBc1.out
     have HYc1 := Lib.hid (HYc0.out.kept hbr)
     clear hbr hgr)
    refine hK.out _ _ hk1 (fun hHeld => ?_)
    clear hK K
    try simp only [Act.put, List.setIfInBounds_toArray, List.set_cons_zero, List.set_cons_succ]
    refine wpAnyH_ready (rs := [2]) (by kernel_rfl) (by simp) ?_
    refine AllReadyH.cons (o := ?oi_51_0) ?hi_51_0 (fun K hK => ?_) AllReadyH.nil
    case hi_51_0 => simp only [List.getElem?_toArray, List.getElem?_cons_zero, List.getElem?_cons_succ]; try rfl
    go_simp
    (go_at_call 12
     refine (HR2.out _ _ _ HVc1.out HGcr.out).mono ?_
     rintro e v2 ⟨rfl, hbz2⟩
     have HBc2 : Hid (Below W0.heap.size W0 v2) := Lib.hid (HBc1.out.trans (hbz2.mono HBc1.out.size))
     have HVc2 : Hid (Below w.heap.size w v2) := Lib.hid (HVc1.out.trans (hbz2.mono HVc1.out.size))
     have hk2 := HK.out _ HBc2.out
     have HYc2 := Lib.hid (HYc1.out.kept hbz2)
     clear hbz2)
    refine hK.out _ _ hk2 (fun hHeld => ?_)
    clear hK K
    try simp only [Act.put, List.setIfInBounds_toArray, List.set_cons_zero, List.set_cons_succ]
    refine wpAnyH_take (i := 4) (oi := ?oi_42) (v := ?_) ?hi_42 (by kernel_rfl) ?hf_42 (by kernel_rfl) ?hQ_42 ?hy_42 (by assumption) ?_
    case hi_42 => simp only [List.getElem?_toArray, List.getElem?_cons_zero, List.getElem?_cons_succ] <;> rfl
    case hf_42 => kernel_rfl
    case hQ_42 => exact fun _ _ _ h => h
    case hy_42 =>
      refine Or.inl ⟨by rfl, ?_⟩
      intro W hSw
      obtain ⟨q0, q1, q2, q3, q4⟩ := hSw
      go_simp
      try with_reducible rfl
    try simp only [Act.put, List.setIfInBounds_toArray, List.set_cons_zero, List.set_cons_succ]
    refine wpAnyH_take (i := 5) (oi := ?oi_43) (v := ?_) ?hi_43 (by kernel_rfl) ?hf_43 (by kernel_rfl) ?hQ_43 ?hy_43 (by assumption) ?_
    case hi_43 => simp only [List.getElem?_toArray, List.getElem?_cons_zero, List.getElem?_cons_succ] <;> rfl
    case hf_43 => kernel_rfl
    case hQ_43 => exact fun _ _ _ h => h
    case hy_43 =>
      refine Or.inl ⟨by rfl, ?_⟩
      intro W hSw
      obtain ⟨q0, q1, q2, q3, q4⟩ := hSw
      go_simp
      try with_reducible rfl
    try simp only [Act.put, List.setIfInBounds_toArray, List.set_cons_zero, List.set_cons_succ]
    refine wpAnyH_take (i := 6) (oi := ?oi_44) (v := ?_) ?hi_44 (by kernel_rfl) ?hf_44 (by kernel_rfl) ?hQ_44 ?hy_44 (by assumption) ?_
    case hi_44 => simp only [List.getElem?_toArray, List.getElem?_cons_zero, List.getElem?_cons_succ] <;> rfl
    case hf_44 => kernel_rfl
    case hQ_44 => exact fun _ _ _ h => h
    case hy_44 =>
      refine Or.inl ⟨by rfl, ?_⟩
      intro W hSw
      obtain ⟨q0, q1, q2, q3, q4⟩ := hSw
      go_simp
      try with_reducible rfl
    try simp only [Act.put, List.setIfInBounds_toArray, List.set_cons_zero, List.set_cons_succ]
    refine wpAnyH_take (i := 8) (oi := ?oi_45) (v := ?_) ?hi_45 (by kernel_rfl) ?hf_45 (by kernel_rfl) ?hQ_45 ?hy_45 (by assumption) ?_
    case hi_45 => simp only [List.getElem?_toArray, List.getElem?_cons_zero, List.getElem?_cons_succ] <;> rfl
    case hf_45 => kernel_rfl
    case hQ_45 => exact fun _ _ _ h => h
    case hy_45 =>
      refine Or.inl ⟨by rfl, ?_⟩
      intro W hSw
      obtain ⟨q0, q1, q2, q3, q4⟩ := hSw
      go_simp
      try with_reducible rfl
    try simp only [Act.put, List.setIfInBounds_toArray, List.set_cons_zero, List.set_cons_succ]
    refine wpAnyH_ready (rs := [7]) (by kernel_rfl) (by simp) ?_
    refine AllReadyH.cons (o := ?oi_50_0) ?hi_50_0 (fun K hK => ?_) AllReadyH.nil
    case hi_50_0 => simp only [List.getElem?_toArray, List.getElem?_cons_zero, List.getElem?_cons_succ]; try rfl
    go_simp
    (go_at_call 9
     refine (HT1.out _ HVc2.out).mono ?_
     rintro e v3 ⟨gs, cps, hps, hqs, rfl, hbs, hgs⟩
     have HGcs := Lib.hid hgs
     have HBc3 : Hid (Below W0.heap.size W0 v3) := Lib.hid (HBc2.out.trans (hbs.mono HBc2.out.size))
     have HVc3 : Hid (Below w.heap.size w v3) := Lib.hid (HVc2.out.trans (hbs.mono HVc2.out.size))
     have hk3 := HK.out _ HBc3.out
     have HYc3 := Lib.hid (HYc2.out.kept hbs)
     clear hbs hgs)
    refine hK.out _ _ hk3 (fun hHeld => ?_)
    clear hK K
    try simp only [Act.put, List.setIfInBounds_toArray, List.set_cons_zero, List.set_cons_succ]
    refine wpAnyH_ready (rs := [9]) (by kernel_rfl) (by simp) ?_
    refine AllReadyH.cons (o := ?oi_49_0) ?hi_49_0 (fun K hK => ?_) AllReadyH.nil
    case hi_49_0 => simp only [List.getElem?_toArray, List.getElem?_cons_zero, List.getElem?_cons_succ]; try rfl
    go_simp
    (go_at_call 9
     refine (HT1.out _ HVc3.out).mono ?_
     rintro e v4 ⟨gt, cpt, hpt, hqt, rfl, hbt, hgt⟩
     have HGct := Lib.hid hgt
     have HBc4 : Hid (Below W0.heap.size W0 v4) := Lib.hid (HBc3.out.trans (hbt.mono HBc3.out.size))
     have HVc4 : Hid (Below w.heap.size w v4) := Lib.hid (HVc3.out.trans (hbt.mono HVc3.out.size))
     have hk4 := HK.out _ HBc4.out
     have HYc4 := Lib.hid (HYc3.out.kept hbt)
     have HGs2 := Lib.hid (HG1.out _ _ _ _ HGcs.out hbt)
     clear hbt hgt)
    refine hK.out _ _ hk4 (fun hHeld => ?_)
    clear hK K
    try simp only [Act.put, List.setIfInBounds_toArray, List.set_cons_zero, List.set_cons_succ]
    have HGX := HGs2
    have HGY := HGct
    refine wpAnyH_ready (rs := [10]) (by kernel_rfl) (by simp) ?_
    refine AllReadyH.cons (o := ?oi_48_0) ?hi_48_0 (fun K hK => ?_) AllReadyH.nil
    case hi_48_0 => simp only [List.getElem?_toArray, List.getElem?_cons_zero, List.getElem?_cons_succ]; try rfl
    go_simp
    (go_at_call 13
     refine (HI.out _ _ _ _ _ HVc4.out HGX.out HGY.out).mono ?_
     rintro e v5 ⟨rfl, hbz5⟩
     have HBc5 : Hid (Below W0.heap.size W0 v5) := Lib.hid (HBc4.out.trans (hbz5.mono HBc4.out.size))
     have HVc5 : Hid (Below w.heap.size w v5) := Lib.hid (HVc4.out.trans (hbz5.mono HVc4.out.size))
     have hk5 := HK.out _ HBc5.out
     have HYc5 := Lib.hid (HYc4.out.kept hbz5)
     clear hbz5)
    refine hK.out _ _ hk5 (fun hHeld => ?_)
    clear hK K
    try simp only [Act.put, List.setIfInBounds_toArray, List.set_cons_zero, List.set_cons_succ]
    refine wpAnyH_take (i := 11) (oi := ?oi_46) (v := ?_) ?hi_46 (by kernel_rfl) ?hf_46 (by kernel_rfl) ?hQ_46 ?hy_46 (by assumption) ?_
    case hi_46 => simp only [List.getElem?_toArray, List.getElem?_cons_zero, List.getElem?_cons_succ] <;> rfl
    case hf_46 => kernel_rfl
    case hQ_46 => exact fun _ _ _ h => h
    case hy_46 =>
      refine Or.inl ⟨by rfl, ?_⟩
      intro W hSw
      obtain ⟨q0, q1, q2, q3, q4⟩ := hSw
      go_simp
      try with_reducible rfl
    try simp only [Act.put, List.setIfInBounds_toArray, List.set_cons_zero, List.set_cons_succ]
    refine wpAnyH_take (i := 12) (oi := ?oi_47) (v := ?_) ?hi_47 (by kernel_rfl) ?hf_47 (by kernel_rfl) ?hQ_47 ?hy_47 (by assumption) ?_
    case hi_47 => simp only [List.getElem?_toArray, List.getElem?_cons_zero, List.getElem?_cons_succ] <;> rfl
    case hf_47 => kernel_rfl
    case hQ_47 => exact fun _ _ _ h => h
    case hy_47 =>
      refine Or.inl ⟨by rfl, ?_⟩
      intro W hSw
      obtain ⟨q0, q1, q2, q3, q4⟩ := hSw
      go_simp
      try with_reducible rfl
    try simp only [Act.put, List.setIfInBounds_toArray, List.set_cons_zero, List.set_cons_succ]
    refine wpAnyH_done (by kernel_rfl) ?_ _
    clear hHeld
    try simp only [Exit.inBlock, Exit.then]
    have HBr := HBc5
    have HVr := HVc5
    have HYr := HYc5
    obtain ⟨m0, m1, m2, m3, m4⟩ := hk5
    clear hks0 hk1 hk2 hk3 hk4
    go_upto_region 9 with fail
    obtain ⟨u, hu⟩ : ∃ x, x = v5 := ⟨_, rfl⟩
    have HN := Lib.hid (New_any A3 L.length c3 L v5 HYr.out (by omega))
    go_upto_region 10 with (go_at_call 15; (with_reducible refine HN.out.mono ?_); rintro e w5 ⟨f, g, rfl, k1, k2, k3, k4⟩; have HF5 := Lib.hid k1; have HU5 := Lib.hid k2; have hfg : v5.heap.size ≤ f ∧ v5.heap.size ≤ g := ⟨k3, k4⟩; clear k1 k2 k3 k4)
    have HCu := Lib.hid (Cursor_ok w5 f g L.length L 0 (-1) 0 L.length HF5.out (by omega) (by omega))
    go_upto_region 11 with (go_at_call 16; (refine HCu.out.mono ?_); rintro e w6 ⟨cu, rfl, k1, k2, k3⟩; have HS6 := Lib.hid k1; have HU6 := Lib.hid (HU5.out.trans (k3.mono HU5.out.size)); have hcu : v5.heap.size ≤ cu := Nat.le_trans HU5.out.size k2; clear k1 k2 k3)
    have HV6 : Hid (Below w.heap.size w w6) := Lib.hid (HVr.out.trans (HU6.out.mono HVr.out.size))
    have hvs := HVr.out.size
    have hbs := HBr.out.size
    have HDx := Lib.hid (Decode_x HS6.out (by omega) HYr.out.2.1 (HT.out w6 HV6.out).1 (HT.out w6 HV6.out).2 (by omega) (by omega))
    unfold DX at HDx
    go_upto_region 12 with (go_at_call 17; (with_reducible refine HDx.out.mono ?_); rintro e w7 ⟨G, r7, hgd, hr7, hf7, hcase⟩; obtain rfl := FGd.out G hgd; obtain ⟨-, hs7, A7, c7, rfl, ho7⟩ : _ := (hcase.resolve_right (fun q => q.1 rfl)); have HS7 := Lib.hid hs7; have HU7 : Hid (Below v5.heap.size v5 w7) := Lib.hid (hf7.below HU6.out HU6.out.size (fun k e => by rcases e with e | e <;> omega)); have HO7 := Lib.hid ho7; clear hgd hf7 hcase hs7 ho7; dsimp only)
    obtain ⟨V, hV⟩ : ∃ V, V = w7.alloc (.cells #[.int .i64 cd, .int .u64 a, .int .u64 b, .int .i64 al, .slice A7 n c7] 30) := ⟨_, rfl⟩
    obtain ⟨by_, hby⟩ : ∃ x, x = w7.heap.size := ⟨_, rfl⟩
    rw [← hV, ← hby]
    obtain ⟨A7', c7', e7, hsl7⟩ := sl_own HO7.out rfl (by show l.length ≤ _; unfold maxLen; omega)
    injection e7 with e71 e72 e73
    subst e71 e73
    have hn7 := hsl7.2.1
    have hm7 := hsl7.2.2.1
    unfold maxLen at hm7
    have HSl7 : Hid (Sl V A7 n c7 l) := Lib.hid (by rw [hV]; rw [hln] at hsl7; exact hsl7.below ((Below.refl _ _).alloc (Nat.le_refl _) _))
    have hXY : Blk V by_ 30 #[.int .i64 cd, .int .u64 a, .int .u64 b, .int .i64 al, .slice A7 n c7] := by rw [hV, hby]; exact Blk.new w7 30 _
    rw [hln] at hn7
    have hUV : Below v5.heap.size v5 V := by rw [hV]; exact HU7.out.alloc HU7.out.size _
    have HUV := Lib.hid hUV
    have HBV : Hid (Below W0.heap.size W0 V) := Lib.hid (HBr.out.trans (hUV.mono HBr.out.size))
    have HVV : Hid (Below w.heap.size w V) := Lib.hid (HVr.out.trans (hUV.mono HVr.out.size))
    have HSV : Hid (St V f g cu L.length L r7 (-1) 0 L.length L.length) := Lib.hid (by rw [hV]; exact HS7.out.fr_ (S := fun _ => False) ((Fr.refl _ w7).alloc _) (fun q => q) (fun q => q) (fun q => q))
    obtain ⟨s1, hs1⟩ : ∃ s, s = str L := ⟨_, rfl⟩
    have HYV := Lib.hid (HYr.out.kept hUV)
    have HKV : Hid (∀ W, Below V.heap.size V W → W.cell? ⟨bx, 0, none⟩ = some (.int .i64 cd) ∧ W.cell? ⟨bx, 1, none⟩ = some (.int .u64 a) ∧ W.cell? ⟨bx, 2, none⟩ = some (.int .u64 b) ∧ W.cell? ⟨bx, 3, none⟩ = some (.int .i64 al) ∧ W.cell? ⟨bx, 4, none⟩ = some (.slice A n c) ∧ W.cell? ⟨by_, 0, none⟩ = some (.int .i64 cd) ∧ W.cell? ⟨by_, 1, none⟩ = some (.int .u64 a) ∧ W.cell? ⟨by_, 2, none⟩ = some (.int .u64 b) ∧ W.cell? ⟨by_, 3, none⟩ = some (.int .i64 al) ∧ W.cell? ⟨by_, 4, none⟩ = some (.slice A7 n c7) ∧ (convert 27 9 (.slice A3 L.length c3)).run Tryz.prog W = .ok (.string s1) W) := Lib.hid (fun W hW => by
      have h1 := HK.out W (HBV.out.trans (hW.mono HBV.out.size))
      have h2 := hXY.below hW hXY.lt
      obtain ⟨r0, r1, r2, r3, r4⟩ := h1
      exact ⟨r0, r1, r2, r3, r4, h2.cell 0, h2.cell 1, h2.cell 2, h2.cell 3, h2.cell 4, by rw [hs1]; exact conv_byt (HYV.out.kept hW)⟩)
    have HS1 := Lib.hid hs1
    clear hs1 hUV hXY hsl7 hV hby HO7 HS7 HU7 HDx HCu HN HF5 HU5 HU6 HS6 HV6 m0 m1 m2 m3 m4 HT1 HR1 HR2 HI FE HA HG1
    have HVd : Hid (Below V.heap.size V V.drew) := Lib.hid (below_drew (Below.refl _ _))
    have hks0 := HKV.out _ HVd.out
    refine wp_region_held_drew (S := (fun W => W.cell? ⟨bx, 0, none⟩ = some (.int .i64 cd) ∧ W.cell? ⟨bx, 1, none⟩ = some (.int .u64 a) ∧ W.cell? ⟨bx, 2, none⟩ = some (.int .u64 b) ∧ W.cell? ⟨bx, 3, none⟩ = some (.int .i64 al) ∧ W.cell? ⟨bx, 4, none⟩ = some (.slice A n c) ∧ W.cell? ⟨by_, 0, none⟩ = some (.int .i64 cd) ∧ W.cell? ⟨by_, 1, none⟩ = some (.int .u64 a) ∧ W.cell? ⟨by_, 2, none⟩ = some (.int .u64 b) ∧ W.cell? ⟨by_, 3, none⟩ = some (.int .i64 al) ∧ W.cell? ⟨by_, 4, none⟩ = some (.slice A7 n c7) ∧ (convert 27 9 (.slice A3 L.length c3)).run Tryz.prog W = .ok (.string s1) W)) (by kernel_rfl) hks0 (fun hHeld => ?_)
    refine wpAnyH_take (i := 0) (oi := ?oi_14) (v := ?_) ?hi_14 (by kernel_rfl) ?hf_14 (by kernel_rfl) ?hQ_14 ?hy_14 (by assumption) ?_
    case hi_14 => simp only [List.getElem?_toArray, List.getElem?_cons_zero, List.getElem?_cons_succ] <;> rfl
    case hf_14 => kernel_rfl
    case hQ_14 => exact fun _ _ _ h => h
    case hy_14 =>
      refine Or.inl ⟨by rfl, ?_⟩
      intro W hSw
      obtain ⟨q0, q1, q2, q3, q4, q5, q6, q7, q8, q9, q10⟩ := hSw
      go_simp
      try with_reducible rfl
    try simp only [Act.put, List.setIfInBounds_toArray, List.set_cons_zero, List.set_cons_succ]
    refine wpAnyH_take (i := 1) (oi := ?oi_15) (v := ?_) ?hi_15 (by kernel_rfl) ?hf_15 (by kernel_rfl) ?hQ_15 ?hy_15 (by assumption) ?_
    case hi_15 => simp only [List.getElem?_toArray, List.getElem?_cons_zero, List.getElem?_cons_succ] <;> rfl
    case hf_15 => kernel_rfl
    case hQ_15 => exact fun _ _ _ h => h
    case hy_15 =>
      refine Or.inl ⟨by rfl, ?_⟩
      intro W hSw
      obtain ⟨q0, q1, q2, q3, q4, q5, q6, q7, q8, q9, q10⟩ := hSw
      go_simp
      try with_reducible rfl
    try simp only [Act.put, List.setIfInBounds_toArray, List.set_cons_zero, List.set_cons_succ]
    refine wpAnyH_take (i := 2) (oi := ?oi_16) (v := ?_) ?hi_16 (by kernel_rfl) ?hf_16 (by kernel_rfl) ?hQ_16 ?hy_16 (by assumption) ?_
    case hi_16 => simp only [List.getElem?_toArray, List.getElem?_cons_zero, List.getElem?_cons_succ] <;> rfl
    case hf_16 => kernel_rfl
    case hQ_16 => exact fun _ _ _ h => h
    case hy_16 =>
      refine Or.inl ⟨by rfl, ?_⟩
      intro W hSw
      obtain ⟨q0, q1, q2, q3, q4, q5, q6, q7, q8, q9, q10⟩ := hSw
      go_simp
      try with_reducible rfl
    try simp only [Act.put, List.setIfInBounds_toArray, List.set_cons_zero, List.set_cons_succ]
    refine wpAnyH_ready (rs := [3]) (by kernel_rfl) (by simp) ?_
    refine AllReadyH.cons (o := ?oi_39_0) ?hi_39_0 (fun K hK => ?_) AllReadyH.nil
    case hi_39_0 => simp only [List.getElem?_toArray, List.getElem?_cons_zero, List.getElem?_cons_succ]; try rfl
    go_simp
    (go_at_call 18
     refine (FE18.out _ (HVV.out.trans (HVd.out.mono HVV.out.size))).mono ?_
     rintro e x1 ⟨A9, n9, c9, rfl, hy9, hn9, hbx1⟩
     subst hn9
     have HY9 := Lib.hid hy9
     have hy9c := hy9.2.2.1
     have hy9m := hy9.2.2.2.1
     unfold maxLen at hy9m
     clear hy9
     have HVd1 : Hid (Below V.heap.size V x1) := Lib.hid (HVd.out.trans (hbx1.mono HVd.out.size))
     have hk1 := HKV.out _ HVd1.out
     clear hbx1)
    refine hK.out _ _ hk1 (fun hHeld => ?_)
    clear hK K
    try simp only [Act.put, List.setIfInBounds_toArray, List.set_cons_zero, List.set_cons_succ]
    refine wpAnyH_ready (rs := [4]) (by kernel_rfl) (by simp) ?_
    refine AllReadyH.cons (o := ?oi_38_0) ?hi_38_0 (fun K hK => ?_) AllReadyH.nil
    case hi_38_0 => simp only [List.getElem?_toArray, List.getElem?_cons_zero, List.getElem?_cons_succ]; try rfl
    have r2 : (convert 27 9 (.slice A9 L.length c9)).run Tryz.prog x1 = .ok (.string s1) x1 := by rw [HS1.out]; exact conv_byt HY9.out
    go_simp
    clear r2
    refine hK.out _ _ hk1 (fun hHeld => ?_)
    clear hK K
    try simp only [Act.put, List.setIfInBounds_toArray, List.set_cons_zero, List.set_cons_succ]
    refine wpAnyH_take (i := 5) (oi := ?oi_17) (v := ?_) ?hi_17 (by kernel_rfl) ?hf_17 (by kernel_rfl) ?hQ_17 ?hy_17 (by assumption) ?_
    case hi_17 => simp only [List.getElem?_toArray, List.getElem?_cons_zero, List.getElem?_cons_succ] <;> rfl
    case hf_17 => kernel_rfl
    case hQ_17 => exact fun _ _ _ h => h
    case hy_17 =>
      refine Or.inl ⟨by rfl, ?_⟩
      intro W hSw
      obtain ⟨q0, q1, q2, q3, q4, q5, q6, q7, q8, q9, q10⟩ := hSw
      go_simp
      try with_reducible rfl
    try simp only [Act.put, List.setIfInBounds_toArray, List.set_cons_zero, List.set_cons_succ]
    refine wpAnyH_take (i := 6) (oi := ?oi_18) (v := ?_) ?hi_18 (by kernel_rfl) ?hf_18 (by kernel_rfl) ?hQ_18 ?hy_18 (by assumption) ?_
    case hi_18 => simp only [List.getElem?_toArray, List.getElem?_cons_zero, List.getElem?_cons_succ] <;> rfl
    case hf_18 => kernel_rfl
    case hQ_18 => exact fun _ _ _ h => h
    case hy_18 =>
      refine Or.inl ⟨by rfl, ?_⟩
      intro W hSw
      obtain ⟨q0, q1, q2, q3, q4, q5, q6, q7, q8, q9, q10⟩ := hSw
      go_simp
      try with_reducible rfl
    try simp only [Act.put, List.setIfInBounds_toArray, List.set_cons_zero, List.set_cons_succ]
    refine wpAnyH_take (i := 7) (oi := ?oi_19) (v := ?_) ?hi_19 (by kernel_rfl) ?hf_19 (by kernel_rfl) ?hQ_19 ?hy_19 (by assumption) ?_
    case hi_19 => simp only [List.getElem?_toArray, List.getElem?_cons_zero, List.getElem?_cons_succ] <;> rfl
    case hf_19 => kernel_rfl
    case hQ_19 => exact fun _ _ _ h => h
    case hy_19 =>
      refine Or.inl ⟨by rfl, ?_⟩
      intro W hSw
      obtain ⟨q0, q1, q2, q3, q4, q5, q6, q7, q8, q9, q10⟩ := hSw
      go_simp
      try with_reducible rfl
    try simp only [Act.put, List.setIfInBounds_toArray, List.set_cons_zero, List.set_cons_succ]
    refine wpAnyH_take (i := 8) (oi := ?oi_20) (v := ?_) ?hi_20 (by kernel_rfl) ?hf_20 (by kernel_rfl) ?hQ_20 ?hy_20 (by assumption) ?_
    case hi_20 => simp only [List.getElem?_toArray, List.getElem?_cons_zero, List.getElem?_cons_succ] <;> rfl
    case hf_20 => kernel_rfl
    case hQ_20 => exact fun _ _ _ h => h
    case hy_20 =>
      refine Or.inl ⟨by rfl, ?_⟩
      intro W hSw
      obtain ⟨q0, q1, q2, q3, q4, q5, q6, q7, q8, q9, q10⟩ := hSw
      go_simp
      try with_reducible rfl
    try simp only [Act.put, List.setIfInBounds_toArray, List.set_cons_zero, List.set_cons_succ]
    refine wpAnyH_take (i := 9) (oi := ?oi_21) (v := ?_) ?hi_21 (by kernel_rfl) ?hf_21 (by kernel_rfl) ?hQ_21 ?hy_21 (by assumption) ?_
    case hi_21 => simp only [List.getElem?_toArray, List.getElem?_cons_zero, List.getElem?_cons_succ] <;> rfl
    case hf_21 => kernel_rfl
    case hQ_21 => exact fun _ _ _ h => h
    case hy_21 =>
      refine Or.inl ⟨by rfl, ?_⟩
      intro W hSw
      obtain ⟨q0, q1, q2, q3, q4, q5, q6, q7, q8, q9, q10⟩ := hSw
      go_simp
      try with_reducible rfl
    try simp only [Act.put, List.setIfInBounds_toArray, List.set_cons_zero, List.set_cons_succ]
    refine wpAnyH_take (i := 10) (oi := ?oi_22) (v := ?_) ?hi_22 (by kernel_rfl) ?hf_22 (by kernel_rfl) ?hQ_22 ?hy_22 (by assumption) ?_
    case hi_22 => simp only [List.getElem?_toArray, List.getElem?_cons_zero, List.getElem?_cons_succ] <;> rfl
    case hf_22 => kernel_rfl
    case hQ_22 => exact fun _ _ _ h => h
    case hy_22 =>
      refine Or.inl ⟨by rfl, ?_⟩
      intro W hSw
      obtain ⟨q0, q1, q2, q3, q4, q5, q6, q7, q8, q9, q10⟩ := hSw
      go_simp
      try with_reducible rfl
    try simp only [Act.put, List.setIfInBounds_toArray, List.set_cons_zero, List.set_cons_succ]
    refine wpAnyH_take (i := 11) (oi := ?oi_23) (v := ?_) ?hi_23 (by kernel_rfl) ?hf_23 (by kernel_rfl) ?hQ_23 ?hy_23 (by assumption) ?_
    case hi_23 => simp only [List.getElem?_toArray, List.getElem?_cons_zero, List.getElem?_cons_succ] <;> rfl
    case hf_23 => kernel_rfl
    case hQ_23 => exact fun _ _ _ h => h
    case hy_23 =>
      refine Or.inl ⟨by rfl, ?_⟩
      intro W hSw
      obtain ⟨q0, q1, q2, q3, q4, q5, q6, q7, q8, q9, q10⟩ := hSw
      go_simp
      try with_reducible rfl
    try simp only [Act.put, List.setIfInBounds_toArray, List.set_cons_zero, List.set_cons_succ]
    refine wpAnyH_take (i := 12) (oi := ?oi_24) (v := ?_) ?hi_24 (by kernel_rfl) ?hf_24 (by kernel_rfl) ?hQ_24 ?hy_24 (by assumption) ?_
    case hi_24 => simp only [List.getElem?_toArray, List.getElem?_cons_zero, List.getElem?_cons_succ] <;> rfl
    case hf_24 => kernel_rfl
    case hQ_24 => exact fun _ _ _ h => h
    case hy_24 =>
      refine Or.inl ⟨by rfl, ?_⟩
      intro W hSw
      obtain ⟨q0, q1, q2, q3, q4, q5, q6, q7, q8, q9, q10⟩ := hSw
      go_simp
      try with_reducible rfl
    try simp only [Act.put, List.setIfInBounds_toArray, List.set_cons_zero, List.set_cons_succ]
    refine wpAnyH_take (i := 13) (oi := ?oi_25) (v := ?_) ?hi_25 (by kernel_rfl) ?hf_25 (by kernel_rfl) ?hQ_25 ?hy_25 (by assumption) ?_
    case hi_25 => simp only [List.getElem?_toArray, List.getElem?_cons_zero, List.getElem?_cons_succ] <;> rfl
    case hf_25 => kernel_rfl
    case hQ_25 => exact fun _ _ _ h => h
    case hy_25 =>
      refine Or.inl ⟨by rfl, ?_⟩
      intro W hSw
      obtain ⟨q0, q1, q2, q3, q4, q5, q6, q7, q8, q9, q10⟩ := hSw
      go_simp
      try with_reducible rfl
    try simp only [Act.put, List.setIfInBounds_toArray, List.set_cons_zero, List.set_cons_succ]
    refine wpAnyH_take (i := 14) (oi := ?oi_26) (v := ?_) ?hi_26 (by kernel_rfl) ?hf_26 (by kernel_rfl) ?hQ_26 ?hy_26 (by assumption) ?_
    case hi_26 => simp only [List.getElem?_toArray, List.getElem?_cons_zero, List.getElem?_cons_succ] <;> rfl
    case hf_26 => kernel_rfl
    case hQ_26 => exact fun _ _ _ h => h
    case hy_26 =>
      refine Or.inl ⟨by rfl, ?_⟩
      intro W hSw
      obtain ⟨q0, q1, q2, q3, q4, q5, q6, q7, q8, q9, q10⟩ := hSw
      go_simp
      try with_reducible rfl
    try simp only [Act.put, List.setIfInBounds_toArray, List.set_cons_zero, List.set_cons_succ]
    refine wpAnyH_take (i := 15) (oi := ?oi_27) (v := ?_) ?hi_27 (by kernel_rfl) ?hf_27 (by kernel_rfl) ?hQ_27 ?hy_27 (by assumption) ?_
    case hi_27 => simp only [List.getElem?_toArray, List.getElem?_cons_zero, List.getElem?_cons_succ] <;> rfl
    case hf_27 => kernel_rfl
    case hQ_27 => exact fun _ _ _ h => h
    case hy_27 =>
      refine Or.inl ⟨by rfl, ?_⟩
      intro W hSw
      obtain ⟨q0, q1, q2, q3, q4, q5, q6, q7, q8, q9, q10⟩ := hSw
      go_simp
      try with_reducible rfl
    try simp only [Act.put, List.setIfInBounds_toArray, List.set_cons_zero, List.set_cons_succ]
    refine wpAnyH_take (i := 17) (oi := ?oi_28) (v := ?_) ?hi_28 (by kernel_rfl) ?hf_28 (by kernel_rfl) ?hQ_28 ?hy_28 (by assumption) ?_
    case hi_28 => simp only [List.getElem?_toArray, List.getElem?_cons_zero, List.getElem?_cons_succ] <;> rfl
    case hf_28 => kernel_rfl
    case hQ_28 => exact fun _ _ _ h => h
    case hy_28 =>
      refine Or.inl ⟨by rfl, ?_⟩
      intro W hSw
      obtain ⟨q0, q1, q2, q3, q4, q5, q6, q7, q8, q9, q10⟩ := hSw
      go_simp
      try with_reducible rfl
    try simp only [Act.put, List.setIfInBounds_toArray, List.set_cons_zero, List.set_cons_succ]
    refine wpAnyH_ready (rs := [16]) (by kernel_rfl) (by simp) ?_
    refine AllReadyH.cons (o := ?oi_37_0) ?hi_37_0 (fun K hK => ?_) AllReadyH.nil
    case hi_37_0 => simp only [List.getElem?_toArray, List.getElem?_cons_zero, List.getElem?_cons_succ]; try rfl
    go_simp
    (go_at_call 20
     refine (Of_ok _ _ _ _ _ _ _ hn7 (by omega) _).mono ?_
     rintro e x2 ⟨rfl, hbx2⟩
     have HVd2 : Hid (Below V.heap.size V x2) := Lib.hid (HVd1.out.trans (hbx2.mono HVd1.out.size))
     have hk2 := HKV.out _ HVd2.out
     clear hbx2)
    refine hK.out _ _ hk2 (fun hHeld => ?_)
    clear hK K
    try simp only [Act.put, List.setIfInBounds_toArray, List.set_cons_zero, List.set_cons_succ]
    refine wpAnyH_ready (rs := [18]) (by kernel_rfl) (by simp) ?_
    refine AllReadyH.cons (o := ?oi_36_0) ?hi_36_0 (fun K hK => ?_) AllReadyH.nil
    case hi_36_0 => simp only [List.getElem?_toArray, List.getElem?_cons_zero, List.getElem?_cons_succ]; try rfl
    go_simp
    (go_at_call 19
     refine (FS.out _ _ _ (HVV.out.trans (HVd2.out.mono HVV.out.size)) (HSl7.out.below HVd2.out)).mono ?_
     rintro e x3 ⟨rfl, hbx3⟩
     have HVd3 : Hid (Below V.heap.size V x3) := Lib.hid (HVd2.out.trans (hbx3.mono HVd2.out.size))
     have hk3 := HKV.out _ HVd3.out
     clear hbx3)
    refine hK.out _ _ hk3 (fun hHeld => ?_)
    clear hK K
    try simp only [Act.put, List.setIfInBounds_toArray, List.set_cons_zero, List.set_cons_succ]
    refine wpAnyH_take (i := 19) (oi := ?oi_29) (v := ?_) ?hi_29 (by kernel_rfl) ?hf_29 (by kernel_rfl) ?hQ_29 ?hy_29 (by assumption) ?_
    case hi_29 => simp only [List.getElem?_toArray, List.getElem?_cons_zero, List.getElem?_cons_succ] <;> rfl
    case hf_29 => kernel_rfl
    case hQ_29 => exact fun _ _ _ h => h
    case hy_29 =>
      refine Or.inl ⟨by rfl, ?_⟩
      intro W hSw
      obtain ⟨q0, q1, q2, q3, q4, q5, q6, q7, q8, q9, q10⟩ := hSw
      go_simp
      try with_reducible rfl
    try simp only [Act.put, List.setIfInBounds_toArray, List.set_cons_zero, List.set_cons_succ]
    refine wpAnyH_take (i := 20) (oi := ?oi_30) (v := ?_) ?hi_30 (by kernel_rfl) ?hf_30 (by kernel_rfl) ?hQ_30 ?hy_30 (by assumption) ?_
    case hi_30 => simp only [List.getElem?_toArray, List.getElem?_cons_zero, List.getElem?_cons_succ] <;> rfl
    case hf_30 => kernel_rfl
    case hQ_30 => exact fun _ _ _ h => h
    case hy_30 =>
      refine Or.inl ⟨by rfl, ?_⟩
      intro W hSw
      obtain ⟨q0, q1, q2, q3, q4, q5, q6, q7, q8, q9, q10⟩ := hSw
      go_simp
      try with_reducible rfl
    try simp only [Act.put, List.setIfInBounds_toArray, List.set_cons_zero, List.set_cons_succ]
    refine wpAnyH_take (i := 21) (oi := ?oi_31) (v := ?_) ?hi_31 (by kernel_rfl) ?hf_31 (by kernel_rfl) ?hQ_31 ?hy_31 (by assumption) ?_
    case hi_31 => simp only [List.getElem?_toArray, List.getElem?_cons_zero, List.getElem?_cons_succ] <;> rfl
    case hf_31 => kernel_rfl
    case hQ_31 => exact fun _ _ _ h => h
    case hy_31 =>
      refine Or.inl ⟨by rfl, ?_⟩
      intro W hSw
      obtain ⟨q0, q1, q2, q3, q4, q5, q6, q7, q8, q9, q10⟩ := hSw
      go_simp
      try with_reducible rfl
    try simp only [Act.put, List.setIfInBounds_toArray, List.set_cons_zero, List.set_cons_succ]
    refine wpAnyH_ready (rs := [22]) (by kernel_rfl) (by simp) ?_
    refine AllReadyH.cons (o := ?oi_35_0) ?hi_35_0 (fun K hK => ?_) AllReadyH.nil
    case hi_35_0 => simp only [List.getElem?_toArray, List.getElem?_cons_zero, List.getElem?_cons_succ]; try rfl
    go_simp
    (go_at_call 21
     refine (Left_any _ cu f 0 L.length L.length (HSV.out.fr_ (S := fun _ => False) (Fr.of_below HVd3.out) (fun q => q) (fun q => q) (fun q => q)).cu (Nat.le_refl _) (by omega)).mono ?_
     rintro e x4 ⟨rfl, kx, hkx⟩
     have hbx4 : Below x3.heap.size x3 x4 := by rw [← hkx]; exact below_drewN (Below.refl _ _) kx
     clear hkx
     have HVd4 : Hid (Below V.heap.size V x4) := Lib.hid (HVd3.out.trans (hbx4.mono HVd3.out.size))
     have hk4 := HKV.out _ HVd4.out
     clear hbx4)
    refine hK.out _ _ hk4 (fun hHeld => ?_)
    clear hK K
    try simp only [Act.put, List.setIfInBounds_toArray, List.set_cons_zero, List.set_cons_succ]
    refine wpAnyH_take (i := 23) (oi := ?oi_32) (v := ?_) ?hi_32 (by kernel_rfl) ?hf_32 (by kernel_rfl) ?hQ_32 ?hy_32 (by assumption) ?_
    case hi_32 => simp only [List.getElem?_toArray, List.getElem?_cons_zero, List.getElem?_cons_succ] <;> rfl
    case hf_32 => kernel_rfl
    case hQ_32 => exact fun _ _ _ h => h
    case hy_32 =>
      refine Or.inl ⟨by rfl, ?_⟩
      intro W hSw
      obtain ⟨q0, q1, q2, q3, q4, q5, q6, q7, q8, q9, q10⟩ := hSw
      go_simp
      try with_reducible rfl
    try simp only [Act.put, List.setIfInBounds_toArray, List.set_cons_zero, List.set_cons_succ]
    refine wpAnyH_take (i := 24) (oi := ?oi_33) (v := ?_) ?hi_33 (by kernel_rfl) ?hf_33 (by kernel_rfl) ?hQ_33 ?hy_33 (by assumption) ?_
    case hi_33 => simp only [List.getElem?_toArray, List.getElem?_cons_zero, List.getElem?_cons_succ] <;> rfl
    case hf_33 => kernel_rfl
    case hQ_33 => exact fun _ _ _ h => h
    case hy_33 =>
      refine Or.inl ⟨by rfl, ?_⟩
      intro W hSw
      obtain ⟨q0, q1, q2, q3, q4, q5, q6, q7, q8, q9, q10⟩ := hSw
      go_simp
      try with_reducible rfl
    try simp only [Act.put, List.setIfInBounds_toArray, List.set_cons_zero, List.set_cons_succ]
    refine wpAnyH_take (i := 25) (oi := ?oi_34) (v := ?_) ?hi_34 (by kernel_rfl) ?hf_34 (by kernel_rfl) ?hQ_34 ?hy_34 (by assumption) ?_
    case hi_34 => simp only [List.getElem?_toArray, List.getElem?_cons_zero, List.getElem?_cons_succ] <;> rfl
    case hf_34 => kernel_rfl
    case hQ_34 => exact fun _ _ _ h => h
    case hy_34 =>
      refine Or.inl ⟨by rfl, ?_⟩
      intro W hSw
      obtain ⟨q0, q1, q2, q3, q4, q5, q6, q7, q8, q9, q10⟩ := hSw
      go_simp
      try with_reducible rfl
    try simp only [Act.put, List.setIfInBounds_toArray, List.set_cons_zero, List.set_cons_succ]
    refine wpAnyH_done (by kernel_rfl) ?_ _
    clear hHeld
    try simp only [Exit.inBlock, Exit.then]
    go_wp2
    go_ret
    exact ⟨rfl, HVV.out.trans (HVd4.out.mono HVV.out.size)⟩
end Go.Proofs.YtggfaalodojjkaaGreatDoor
namespace Go.Proofs.YtggfaalodojjkaaGreatDoor
open Go.RowKit
set_option linter.unusedVariables false
set_option linter.unusedSimpArgs false
set_option maxHeartbeats 2000000 in
set_option maxRecDepth 100000 in
theorem codes_long (cd a b al : Int) (A : Option Addr) (n c : Nat) (hn : 120 < n) (hnc : n ≤ c) (hc : c ≤ 9223372036854775807) (w : World)
    (hA : ∀ W, Below w.heap.size w W → Calls Tryz.prog 8 #[] W fun e w' => e = .returned (.bool true) ∧ Below W.heap.size W w') :
    Calls Tryz.prog 3 #[.agg #[.int .i64 cd, .int .u64 a, .int .u64 b, .int .i64 al, .slice A n c]] w fun e w' => e = .returned (.bool true) ∧ Below w.heap.size w w' := by
  obtain ⟨W0, hW0⟩ : ∃ V, V = w.alloc (.cells #[.int .i64 cd, .int .u64 a, .int .u64 b, .int .i64 al, .slice A n c] 25) := ⟨_, rfl⟩
  have hb0 : Below w.heap.size w W0 := by rw [hW0]; exact (Below.refl _ _).alloc (Nat.le_refl _) _
  have hX0 : Blk W0 w.heap.size 25 #[.int .i64 cd, .int .u64 a, .int .u64 b, .int .i64 al, .slice A n c] := by rw [hW0]; exact Blk.new w 25 _
  have HB0 := Lib.hid hb0
  have HW0 := Lib.hid hW0
  have HA := Lib.hid hA
  have z4 : W0.cell? ⟨w.heap.size, 4, none⟩ = some (.slice A n c) := hX0.cell 4
  clear hb0 hX0 hW0 hA
  go_enter Tryz.func3, Tryz.ntmps3
  go_upto_region 1 with fail
  rw [← HW0.out]
  go_wp2_with (go_at_call 8; with_reducible refine (HA.out W0 HB0.out).mono ?_; rintro e w1 ⟨rfl, hb1⟩; have HB1 := Lib.hid hb1; clear hb1)
  go_ret
  exact ⟨rfl, HB0.out.trans (HB1.out.mono HB0.out.size)⟩
theorem op_none (x : In) (hn : ∀ r, ¬ rightI x r) (A : Option Addr) (c : Nat) (w : World) (hT : Tb w) (hcd : (Lit.int .i64 x.cd).wf = true) (hl : Sl w A x.l.length c x.l) (hln : x.l.length ≤ 200000) :
    Calls Tryz.prog 29 #[.agg (I5 x (.slice A x.l.length c)).toArray] w fun e w' => e = .returned (.tuple #[.agg #[.int .i64 0, .string ⟨#[]⟩, .int .i64 0, .slice none 0 0, .slice none 0 0], .bool false]) ∧ Below w.heap.size w w' := by
  refine (op_ok x A c w hT hcd hl hln).mono ?_
  rintro e w' ⟨hb, h⟩
  rcases h with ⟨rfl, _⟩ | ⟨r, _, _, _, _, hr, _⟩
  · exact ⟨rfl, hb⟩
  · exact absurd hr (hn r)
theorem rightP (x : In) (wx : InW x) (A : Option Addr) (c : Nat) (w : World) (hL : Lw w) (hl : Sl w A x.l.length c x.l) (hn : x.l.length ≤ 120) :
    Calls Tryz.prog 12 #[.agg (I5 x (.slice A x.l.length c)).toArray] w fun e w' => e = .returned (.bool (rrB x)) ∧ Below w.heap.size w w' := by
  have hnc := hl.2.1
  have hcm := hl.2.2.1
  unfold maxLen at hcm
  cases h : rrB x with
  | true =>
    obtain ⟨r, hr⟩ := right_of_rr wx h
    have hm := (right_facts hr).1
    exact right_yes x.cd x.a x.b x.al A x.l.length c hnc (by omega) w ((r.first : Int) + ((x.cd - r.first).toNat : Int)) ((r.form : Nat) : Int) (nmS r (x.cd - r.first).toNat) r.takes.length r.gives.length (Lib.hid (fun W hW => (op_rightG x r hr A c W (hL.below hW).tb.1 wx.cd (hl.below hW) (by omega)).mono (by
      rintro e w' ⟨At, ct, Ag, cg, q1, q2, q3, q4, q5, q6, _⟩
      exact ⟨At, ct, Ag, cg, q1, q2, q3, q4, q5, q6⟩)))
  | false =>
    have hno : ∀ r, ¬ rightI x r := fun r hr => by rw [rr_right hr wx] at h; cases h
    exact right_no x.cd x.a x.b x.al A x.l.length c hnc (by omega) w (Lib.hid (fun W hW => op_none x hno A c W (hL.below hW).tb.1 wx.cd (hl.below hW) (by omega)))
theorem instrCodes_walk (x : In) (A : Option Addr) (c : Nat) (w : World) (hl : Sl w A x.l.length c x.l) (hx : InA x) (h : Lw w ∧ Tab w 1 13 2 forL) :
    Calls Tryz.prog 3 #[.agg (I5 x (.slice A x.l.length c)).toArray] w fun e w' => e = .returned (.bool true) ∧ Below w.heap.size w w' := by
  obtain ⟨hL, hTab⟩ := h
  have hnc := hl.2.1
  have hcm := hl.2.2.1
  unfold maxLen at hcm
  have hA := fun W (hW : Below w.heap.size w W) => awake_any W (hL.below hW)
  by_cases hlong : 120 < x.l.length
  · exact codes_long x.cd x.a x.b x.al A _ c hlong hnc (by omega) w hA
  have hn : x.l.length ≤ 120 := by omega
  have wx := hx.w hn
  have hes := hL.es.1
  have hbz := hTab.lt
  have hlen : ∀ L : List Nat, (∃ r, rightI x r ∧ L = encL x r) ∨ L = [] → L.length ≤ 20000 := by
    rintro L (⟨r, hr, rfl⟩ | rfl)
    · exact encL_len hr wx
    · simp
  obtain ⟨L, hLx, hLl⟩ : ∃ L, (rrB x = true → ∃ r, rightI x r ∧ L = encL x r) ∧ L.length ≤ 20000 := by
    by_cases h : rrB x = true
    · obtain ⟨r, hr⟩ := right_of_rr wx h
      exact ⟨_, fun _ => ⟨r, hr, rfl⟩, hlen _ (.inl ⟨r, hr, rfl⟩)⟩
    · exact ⟨[], fun q => absurd q h, by simp⟩
  have hno : rrB x = false → ∀ r, ¬ rightI x r := fun h r hr => by rw [rr_right hr wx] at h; cases h
  refine codes_walk x.cd x.a x.b x.al A x.l.length c x.l rfl hn hnc (by omega) w (rrB x) L hLl
    (fun g cp W => (x.l.length ≤ cp ∧ cp ≤ 9223372036854775807) ∧ Sl W (some ⟨g, 0, none⟩) x.l.length cp x.l) (fun g cp W V h hb => ⟨h.1, h.2.below hb⟩) (by omega)
    (fun W hW => ⟨(hL.below hW).tb.1, hTab.below hW hbz⟩) hA ?_ ?_ ?_ (fun W hW => RRight_any x wx A c W (hl.below hW)) ?_ ?_ ?_ ?_ ?_ ?_
  · intro W hW
    refine (to_sl x A c W (hl.below hW) hn).mono ?_
    rintro e w' ⟨g, cp, q1, q2, q3, q4, q5⟩
    exact ⟨g, cp, q1, q2, q3, q4, ⟨q1, q2⟩, q5⟩
  · intro h1 g cp W hW hs
    obtain ⟨r, hr, rfl⟩ := hLx h1
    exact enc_any x r hr wx _ cp W (hL.below hW).tb.1 hs.2
  · intro h1 g cp W hW hs
    exact enc_no x.cd x.a x.b x.al _ x.l.length cp hs.1.1 hs.1.2 W (Lib.hid (fun V hV => op_none x (hno h1) _ cp V ((hL.below hW).below hV).tb.1 wx.cd (hs.2.below hV) (by omega)))
  · intro g cp W hW hs
    exact rightP x wx _ cp W (hL.below hW) hs.2 hn
  · intro g cp g2 cp2 W hW h1 h2
    have := Same_I x x _ _ cp cp2 (by omega) (by omega) W h1.2 h2.2
    rw [(eqI_iff x x).2 rfl] at this
    exact this
  · intro h1 g cp W hW hs
    exact print_no x.cd x.a x.b x.al _ x.l.length cp hs.1.1 hs.1.2 W (Lib.hid (fun V hV => op_none x (hno h1) _ cp V ((hL.below hW).below hV).tb.1 wx.cd (hs.2.below hV) (by omega)))
  · intro h1 W hW
    obtain ⟨r, hr, rfl⟩ := hLx h1
    exact enc18_any x r hr wx A c W (hl.below hW)
  · intro h1 G hG
    obtain ⟨r, hr, rfl⟩ := hLx h1
    exact good_enc hr wx hG
  · intro h1 A7 c7 W hW hs
    have := RSame_I x.cd x.cd x.a x.a x.b x.b x.al x.al A7 A c7 c x.l x.l (by omega) (by omega) W hs (hl.below hW)
    simp only [decide_true, Bool.and_self] at this
    exact this
end Go.Proofs.YtggfaalodojjkaaGreatDoor
