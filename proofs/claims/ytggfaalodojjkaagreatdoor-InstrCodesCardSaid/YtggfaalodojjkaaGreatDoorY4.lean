/-
  Texts of YtggfaalodojjkaaGreatDoorY4.
-/
import Derived.Test.YtggfaalodojjkaaGreatDoorY3
import Derived.BigGuard
import Derived.Deep.RegionHeld3
import Derived.ProofKit
import Derived.Test.YtggfaalodojjkaaGreatDoorQLk
import Derived.Test.YtggfaalodojjkaaGreatDoorQLn
namespace Go.Proofs.YtggfaalodojjkaaGreatDoor
open Go.RowKit
set_option linter.unusedVariables false
set_option linter.unusedSimpArgs false
theorem results29 : Tryz.f29.results = #[.cell 2 61, .tmp 3] := by kernel_rfl
/-- may an instruction be? -/
def rightI (x : In) (r : Rw) : Prop := ∃ k, RowOf x.cd k r ∧ (x.cd - r.first).toNat < (Lib.fields r.names).length ∧ riB x r = true
/-- what its op is answered to be -/
def OpPost (x : In) (w : World) (e : Ending) (w' : World) : Prop := Below w.heap.size w w' ∧
  ((e = .returned (.tuple #[.agg Z57, .bool false]) ∧ ∀ r, ¬ rightI x r) ∨
   ∃ r At ct Ag cg, rightI x r ∧ e = .returned (.tuple #[.agg (infV r (x.cd - r.first).toNat At ct Ag cg), .bool true]) ∧ InfAt w' w.heap.size r (x.cd - r.first).toNat At ct Ag cg)
set_option maxHeartbeats 4000000 in
set_option maxRecDepth 100000 in
theorem op29_walk (cd a b al : Int) (A : Option Addr) (c n : Nat) (hnc : n ≤ c) (hcm : c ≤ 9223372036854775807) (w : World) (P : Ending → World → Prop) (G : Option Addr → Nat → Option Addr → Nat → World → Prop)
    (fi fo : Int) (nm : ByteArray) (nt ng : Nat) (fd wi bk ok : Bool) (ma mb mal mlb : Int) (hok : ok = (fd && wi && !(decide (fo = 1) && !bk)))
    (HF : Hid (∀ W, Below w.heap.size w W → Calls Tryz.prog 53 #[.int .i64 cd] W (fun e w' => ∃ At ct Ag cg, nt ≤ ct ∧ ct ≤ 9223372036854775807 ∧ ng ≤ cg ∧ cg ≤ 9223372036854775807 ∧ e = .returned (.tuple #[.agg #[.int .i64 fi, .string nm, .int .i64 fo, .slice At nt ct, .slice Ag ng cg], .bool fd]) ∧ Below W.heap.size W w' ∧ G At ct Ag cg w')))
    (HBO : Hid (fd = true → ∀ At ct Ag cg w1, G At ct Ag cg w1 → ∀ V, Below w1.heap.size w1 V → Calls Tryz.prog 55 #[.agg #[.int .i64 fi, .string nm, .int .i64 fo, .slice At nt ct, .slice Ag ng cg]] V fun e w' => e = .returned (.agg #[.int .u64 ma, .int .u64 mb, .int .i64 mal, .int .i64 mlb]) ∧ Below V.heap.size V w'))
    (HWI : Hid (fd = true → ∀ V, Below w.heap.size w V → Calls Tryz.prog 54 #[.agg #[.int .i64 cd, .int .u64 a, .int .u64 b, .int .i64 al, .slice A n c], .agg #[.int .u64 ma, .int .u64 mb, .int .i64 mal, .int .i64 mlb]] V fun e w' => e = .returned (.bool wi) ∧ Below V.heap.size V w'))
    (HBK : Hid (∀ V, Calls Tryz.prog 56 #[.int .u64 a] V fun e w' => e = .returned (.bool bk) ∧ V = w'))
    (HQn : Hid (ok = false → ∀ V, Below w.heap.size w V → P (.returned (.tuple #[.agg #[.int .i64 0, .string ⟨#[]⟩, .int .i64 0, .slice none 0 0, .slice none 0 0], .bool false])) V))
    (HQy : Hid (ok = true → ∀ At ct Ag cg w1 V, G At ct Ag cg w1 → Below w1.heap.size w1 V → Blk V (w.heap.size + 1) 61 #[.int .i64 0, .string ⟨#[]⟩, .int .i64 0, .slice none 0 0, .slice none 0 0] → Below w.heap.size w (V.setRow (w.heap.size + 1) #[.int .i64 fi, .string nm, .int .i64 fo, .slice At nt ct, .slice Ag ng cg]) → P (.returned (.tuple #[.agg #[.int .i64 fi, .string nm, .int .i64 fo, .slice At nt ct, .slice Ag ng cg], .bool true])) (V.setRow (w.heap.size + 1) #[.int .i64 fi, .string nm, .int .i64 fo, .slice At nt ct, .slice Ag ng cg]))) :
    Calls Tryz.prog 29 #[.agg #[.int .i64 cd, .int .u64 a, .int .u64 b, .int .i64 al, .slice A n c]] w P := by
  obtain ⟨W0, hW0⟩ : ∃ V, V = (w.alloc (.cells #[.int .i64 cd, .int .u64 a, .int .u64 b, .int .i64 al, .slice A n c] 30)).alloc (.cells #[.int .i64 0, .string ⟨#[]⟩, .int .i64 0, .slice none 0 0, .slice none 0 0] 61) := ⟨_, rfl⟩
  obtain ⟨bx, hbx⟩ : ∃ x, x = w.heap.size := ⟨_, rfl⟩
  obtain ⟨b2, hb2⟩ : ∃ x, x = bx + 1 := ⟨_, rfl⟩
  have hb0 : Below w.heap.size w W0 := by rw [hW0]; exact ((Below.refl w.heap.size w).alloc (Nat.le_refl _) _).alloc (Nat.le_of_lt (by simp)) _
  have hX0 : Blk W0 bx 30 #[.int .i64 cd, .int .u64 a, .int .u64 b, .int .i64 al, .slice A n c] := by rw [hW0, hbx]; exact (Blk.new w 30 _).alloc _
  have hZ0 : Blk W0 b2 61 #[.int .i64 0, .string ⟨#[]⟩, .int .i64 0, .slice none 0 0, .slice none 0 0] := by rw [hW0, hb2, hbx]; exact heap2 w _ _
  rw [← hbx] at HQy
  rw [← hb2] at HQy
  have HB0 := Lib.hid hb0
  have HX := Lib.hid (fun V (hV : Below W0.heap.size W0 V) => hX0.below hV hX0.lt)
  have HZ := Lib.hid (fun V (hV : Below W0.heap.size W0 V) => hZ0.below hV hZ0.lt)
  have HF0 := Lib.hid (HF.out W0 hb0)
  have HB2 : Hid (w.heap.size ≤ b2) := Lib.hid (by omega)
  have HW0 := Lib.hid hW0
  have HBX := Lib.hid hbx
  have HBB := Lib.hid hb2
  have HOK := Lib.hid hok
  have x0 : W0.cell? ⟨bx, 0, none⟩ = some (.int .i64 cd) := hX0.cell 0
  clear hb0 hX0 hZ0 hW0 hbx hb2 hok HF
  go_enter Tryz.func29, Tryz.ntmps29
  go_upto_region 1 with fail
  rw [← HBX.out]
  rw [← HBB.out, ← HW0.out]
  go_upto_region 2 with (first
    | (go_at_call 53; (with_reducible refine HF0.out.mono ?_); rintro e w1 ⟨At, ct, Ag, cg, hnt, hct, hng, hcg, rfl, hb1, hg⟩
       have HW1 := Lib.hid hb1
       have HG := Lib.hid hg
       clear hb1 hg))
  obtain ⟨W5, hW5⟩ : ∃ V, V = w1.alloc (.cells #[.int .i64 fi, .string nm, .int .i64 fo, .slice At nt ct, .slice Ag ng cg] 61) := ⟨_, rfl⟩
  obtain ⟨b4, hb4⟩ : ∃ x, x = w1.heap.size := ⟨_, rfl⟩
  have h15 : Below w1.heap.size w1 W5 := by rw [hW5]; exact (Below.refl _ _).alloc (Nat.le_refl _) _
  have hI : Blk W5 b4 61 #[.int .i64 fi, .string nm, .int .i64 fo, .slice At nt ct, .slice Ag ng cg] := by rw [hW5, hb4]; exact Blk.new w1 61 _
  rw [← hb4, ← hW5]
  have HVD : Hid (Below w1.heap.size w1 W5.drew) := Lib.hid (below_drew h15)
  have HKS : Hid (∀ V, Below w1.heap.size w1 V → Below W5.heap.size W5 V → V.cell? ⟨bx, 0, none⟩ = some (.int .i64 cd) ∧ V.cell? ⟨bx, 1, none⟩ = some (.int .u64 a) ∧ V.cell? ⟨bx, 2, none⟩ = some (.int .u64 b) ∧ V.cell? ⟨bx, 3, none⟩ = some (.int .i64 al) ∧ V.cell? ⟨bx, 4, none⟩ = some (.slice A n c) ∧ V.cell? ⟨b4, 0, none⟩ = some (.int .i64 fi) ∧ V.cell? ⟨b4, 1, none⟩ = some (.string nm) ∧ V.cell? ⟨b4, 2, none⟩ = some (.int .i64 fo) ∧ V.cell? ⟨b4, 3, none⟩ = some (.slice At nt ct) ∧ V.cell? ⟨b4, 4, none⟩ = some (.slice Ag ng cg)) := Lib.hid (fun V hV hV5 => by
    have hx := HX.out V (HW1.out.trans (hV.mono HW1.out.size))
    have hi := hI.below hV5 hI.lt
    exact ⟨hx.cell 0, hx.cell 1, hx.cell 2, hx.cell 3, hx.cell 4, hi.cell 0, hi.cell 1, hi.cell 2, hi.cell 3, hi.cell 4⟩)
  have HV5 : Hid (Below W5.heap.size W5 W5.drew) := Lib.hid (below_drew (Below.refl _ _))
  have hks0 := HKS.out W5.drew HVD.out HV5.out
  have HBO1 := Lib.hid (fun h => HBO.out h At ct Ag cg w1 HG.out)
  have HWI1 := Lib.hid (fun h V (hV : Below w1.heap.size w1 V) => HWI.out h V ((HB0.out.trans (HW1.out.mono HB0.out.size)).trans (hV.mono (HB0.out.trans (HW1.out.mono HB0.out.size)).size)))
  clear h15 hI hW5 hb4 HBO HWI x0
  cases fd with
  | false =>
    clear HBO1 HWI1
    refine wp_region_noPanic ?_
    refine wp_region_held_drew (S := (fun W => W.cell? ⟨bx, 0, none⟩ = some (.int .i64 cd) ∧ W.cell? ⟨bx, 1, none⟩ = some (.int .u64 a) ∧ W.cell? ⟨bx, 2, none⟩ = some (.int .u64 b) ∧ W.cell? ⟨bx, 3, none⟩ = some (.int .i64 al) ∧ W.cell? ⟨bx, 4, none⟩ = some (.slice A n c) ∧ W.cell? ⟨b4, 0, none⟩ = some (.int .i64 fi) ∧ W.cell? ⟨b4, 1, none⟩ = some (.string nm) ∧ W.cell? ⟨b4, 2, none⟩ = some (.int .i64 fo) ∧ W.cell? ⟨b4, 3, none⟩ = some (.slice At nt ct) ∧ W.cell? ⟨b4, 4, none⟩ = some (.slice Ag ng cg))) (by kernel_rfl) hks0 (fun hHeld => ?_)
    refine wpAnyH_take (i := 0) (oi := ?oi_1) (v := ?_) ?hi_1 (by kernel_rfl) ?hf_1 (by kernel_rfl) ?hQ_1 ?hy_1 (by assumption) ?_
    case hi_1 => simp only [List.getElem?_toArray, List.getElem?_cons_zero, List.getElem?_cons_succ]; try rfl
    case hf_1 => kernel_rfl
    case hQ_1 => exact fun _ _ _ h => h
    case hy_1 =>
      refine Or.inl ⟨by rfl, ?_⟩
      intro W hSw
      obtain ⟨q0, q1, q2, q3, q4, q5, q6, q7, q8, q9⟩ := hSw
      go_simp
      try with_reducible rfl
    try simp only [Act.put, List.setIfInBounds_toArray, List.set_cons_zero, List.set_cons_succ]
    refine wpAnyH_take (i := 1) (oi := ?oi_2) (v := ?_) ?hi_2 (by kernel_rfl) ?hf_2 (by kernel_rfl) ?hQ_2 ?hy_2 (by assumption) ?_
    case hi_2 => simp only [List.getElem?_toArray, List.getElem?_cons_zero, List.getElem?_cons_succ]; try rfl
    case hf_2 => kernel_rfl
    case hQ_2 => exact fun _ _ _ h => h
    case hy_2 =>
      refine Or.inl ⟨by rfl, ?_⟩
      intro W hSw
      obtain ⟨q0, q1, q2, q3, q4, q5, q6, q7, q8, q9⟩ := hSw
      go_simp
      try with_reducible rfl
    try simp only [Act.put, List.setIfInBounds_toArray, List.set_cons_zero, List.set_cons_succ]
    refine wpAnyH_take (i := 2) (oi := ?oi_3) (v := ?_) ?hi_3 (by kernel_rfl) ?hf_3 (by kernel_rfl) ?hQ_3 ?hy_3 (by assumption) ?_
    case hi_3 => simp only [List.getElem?_toArray, List.getElem?_cons_zero, List.getElem?_cons_succ]; try rfl
    case hf_3 => kernel_rfl
    case hQ_3 => exact fun _ _ _ h => h
    case hy_3 =>
      refine Or.inl ⟨by rfl, ?_⟩
      intro W hSw
      obtain ⟨q0, q1, q2, q3, q4, q5, q6, q7, q8, q9⟩ := hSw
      go_simp
      try with_reducible rfl
    try simp only [Act.put, List.setIfInBounds_toArray, List.set_cons_zero, List.set_cons_succ]
    refine wpAnyH_take (i := 3) (oi := ?oi_4) (v := undef) ?hi_4 (by kernel_rfl) ?hf_4 (by kernel_rfl) ?hQ_4 ?hy_4 (by assumption) ?_
    case hi_4 => simp only [List.getElem?_toArray, List.getElem?_cons_zero, List.getElem?_cons_succ]; try rfl
    case hf_4 => kernel_rfl
    case hQ_4 => exact fun _ _ _ h => h
    case hy_4 => exact Or.inr ⟨by rfl, rfl⟩
    try simp only [Act.put, List.setIfInBounds_toArray, List.set_cons_zero, List.set_cons_succ]
    refine wpAnyH_take (i := 4) (oi := ?oi_5) (v := undef) ?hi_5 (by kernel_rfl) ?hf_5 (by kernel_rfl) ?hQ_5 ?hy_5 (by assumption) ?_
    case hi_5 => simp only [List.getElem?_toArray, List.getElem?_cons_zero, List.getElem?_cons_succ]; try rfl
    case hf_5 => kernel_rfl
    case hQ_5 => exact fun _ _ _ h => h
    case hy_5 => exact Or.inr ⟨by rfl, rfl⟩
    try simp only [Act.put, List.setIfInBounds_toArray, List.set_cons_zero, List.set_cons_succ]
    refine wpAnyH_take (i := 5) (oi := ?oi_6) (v := undef) ?hi_6 (by kernel_rfl) ?hf_6 (by kernel_rfl) ?hQ_6 ?hy_6 (by assumption) ?_
    case hi_6 => simp only [List.getElem?_toArray, List.getElem?_cons_zero, List.getElem?_cons_succ]; try rfl
    case hf_6 => kernel_rfl
    case hQ_6 => exact fun _ _ _ h => h
    case hy_6 => exact Or.inr ⟨by rfl, rfl⟩
    try simp only [Act.put, List.setIfInBounds_toArray, List.set_cons_zero, List.set_cons_succ]
    refine wpAnyH_take (i := 6) (oi := ?oi_7) (v := undef) ?hi_7 (by kernel_rfl) ?hf_7 (by kernel_rfl) ?hQ_7 ?hy_7 (by assumption) ?_
    case hi_7 => simp only [List.getElem?_toArray, List.getElem?_cons_zero, List.getElem?_cons_succ]; try rfl
    case hf_7 => kernel_rfl
    case hQ_7 => exact fun _ _ _ h => h
    case hy_7 => exact Or.inr ⟨by rfl, rfl⟩
    try simp only [Act.put, List.setIfInBounds_toArray, List.set_cons_zero, List.set_cons_succ]
    refine wpAnyH_take (i := 7) (oi := ?oi_8) (v := undef) ?hi_8 (by kernel_rfl) ?hf_8 (by kernel_rfl) ?hQ_8 ?hy_8 (by assumption) ?_
    case hi_8 => simp only [List.getElem?_toArray, List.getElem?_cons_zero, List.getElem?_cons_succ]; try rfl
    case hf_8 => kernel_rfl
    case hQ_8 => exact fun _ _ _ h => h
    case hy_8 => exact Or.inr ⟨by rfl, rfl⟩
    try simp only [Act.put, List.setIfInBounds_toArray, List.set_cons_zero, List.set_cons_succ]
    refine wpAnyH_take (i := 8) (oi := ?oi_9) (v := ?_) ?hi_9 (by kernel_rfl) ?hf_9 (by kernel_rfl) ?hQ_9 ?hy_9 (by assumption) ?_
    case hi_9 => simp only [List.getElem?_toArray, List.getElem?_cons_zero, List.getElem?_cons_succ]; try rfl
    case hf_9 => kernel_rfl
    case hQ_9 => exact fun _ _ _ h => h
    case hy_9 =>
      refine Or.inl ⟨by rfl, ?_⟩
      intro W hSw
      obtain ⟨q0, q1, q2, q3, q4, q5, q6, q7, q8, q9⟩ := hSw
      go_simp
      try with_reducible rfl
    try simp only [Act.put, List.setIfInBounds_toArray, List.set_cons_zero, List.set_cons_succ]
    refine wpAnyH_take (i := 9) (oi := ?oi_10) (v := ?_) ?hi_10 (by kernel_rfl) ?hf_10 (by kernel_rfl) ?hQ_10 ?hy_10 (by assumption) ?_
    case hi_10 => simp only [List.getElem?_toArray, List.getElem?_cons_zero, List.getElem?_cons_succ]; try rfl
    case hf_10 => kernel_rfl
    case hQ_10 => exact fun _ _ _ h => h
    case hy_10 =>
      refine Or.inl ⟨by rfl, ?_⟩
      intro W hSw
      obtain ⟨q0, q1, q2, q3, q4, q5, q6, q7, q8, q9⟩ := hSw
      go_simp
      try with_reducible rfl
    try simp only [Act.put, List.setIfInBounds_toArray, List.set_cons_zero, List.set_cons_succ]
    refine wpAnyH_take (i := 10) (oi := ?oi_11) (v := undef) ?hi_11 (by kernel_rfl) ?hf_11 (by kernel_rfl) ?hQ_11 ?hy_11 (by assumption) ?_
    case hi_11 => simp only [List.getElem?_toArray, List.getElem?_cons_zero, List.getElem?_cons_succ]; try rfl
    case hf_11 => kernel_rfl
    case hQ_11 => exact fun _ _ _ h => h
    case hy_11 => exact Or.inr ⟨by rfl, rfl⟩
    try simp only [Act.put, List.setIfInBounds_toArray, List.set_cons_zero, List.set_cons_succ]
    refine wpAnyH_take (i := 11) (oi := ?oi_12) (v := undef) ?hi_12 (by kernel_rfl) ?hf_12 (by kernel_rfl) ?hQ_12 ?hy_12 (by assumption) ?_
    case hi_12 => simp only [List.getElem?_toArray, List.getElem?_cons_zero, List.getElem?_cons_succ]; try rfl
    case hf_12 => kernel_rfl
    case hQ_12 => exact fun _ _ _ h => h
    case hy_12 => exact Or.inr ⟨by rfl, rfl⟩
    try simp only [Act.put, List.setIfInBounds_toArray, List.set_cons_zero, List.set_cons_succ]
    refine wpAnyH_take (i := 12) (oi := ?oi_13) (v := undef) ?hi_13 (by kernel_rfl) ?hf_13 (by kernel_rfl) ?hQ_13 ?hy_13 (by assumption) ?_
    case hi_13 => simp only [List.getElem?_toArray, List.getElem?_cons_zero, List.getElem?_cons_succ]; try rfl
    case hf_13 => kernel_rfl
    case hQ_13 => exact fun _ _ _ h => h
    case hy_13 => exact Or.inr ⟨by rfl, rfl⟩
    try simp only [Act.put, List.setIfInBounds_toArray, List.set_cons_zero, List.set_cons_succ]
    refine wpAnyH_take (i := 13) (oi := ?oi_14) (v := undef) ?hi_14 (by kernel_rfl) ?hf_14 (by kernel_rfl) ?hQ_14 ?hy_14 (by assumption) ?_
    case hi_14 => simp only [List.getElem?_toArray, List.getElem?_cons_zero, List.getElem?_cons_succ]; try rfl
    case hf_14 => kernel_rfl
    case hQ_14 => exact fun _ _ _ h => h
    case hy_14 => exact Or.inr ⟨by rfl, rfl⟩
    try simp only [Act.put, List.setIfInBounds_toArray, List.set_cons_zero, List.set_cons_succ]
    refine wpAnyH_take (i := 14) (oi := ?oi_15) (v := undef) ?hi_15 (by kernel_rfl) ?hf_15 (by kernel_rfl) ?hQ_15 ?hy_15 (by assumption) ?_
    case hi_15 => simp only [List.getElem?_toArray, List.getElem?_cons_zero, List.getElem?_cons_succ]; try rfl
    case hf_15 => kernel_rfl
    case hQ_15 => exact fun _ _ _ h => h
    case hy_15 => exact Or.inr ⟨by rfl, rfl⟩
    try simp only [Act.put, List.setIfInBounds_toArray, List.set_cons_zero, List.set_cons_succ]
    refine wpAnyH_take (i := 15) (oi := ?oi_16) (v := undef) ?hi_16 (by kernel_rfl) ?hf_16 (by kernel_rfl) ?hQ_16 ?hy_16 (by assumption) ?_
    case hi_16 => simp only [List.getElem?_toArray, List.getElem?_cons_zero, List.getElem?_cons_succ]; try rfl
    case hf_16 => kernel_rfl
    case hQ_16 => exact fun _ _ _ h => h
    case hy_16 => exact Or.inr ⟨by rfl, rfl⟩
    try simp only [Act.put, List.setIfInBounds_toArray, List.set_cons_zero, List.set_cons_succ]
    refine wpAnyH_take (i := 16) (oi := ?oi_17) (v := undef) ?hi_17 (by kernel_rfl) ?hf_17 (by kernel_rfl) ?hQ_17 ?hy_17 (by assumption) ?_
    case hi_17 => simp only [List.getElem?_toArray, List.getElem?_cons_zero, List.getElem?_cons_succ]; try rfl
    case hf_17 => kernel_rfl
    case hQ_17 => exact fun _ _ _ h => h
    case hy_17 => exact Or.inr ⟨by rfl, rfl⟩
    try simp only [Act.put, List.setIfInBounds_toArray, List.set_cons_zero, List.set_cons_succ]
    refine wpAnyH_take (i := 17) (oi := ?oi_18) (v := undef) ?hi_18 (by kernel_rfl) ?hf_18 (by kernel_rfl) ?hQ_18 ?hy_18 (by assumption) ?_
    case hi_18 => simp only [List.getElem?_toArray, List.getElem?_cons_zero, List.getElem?_cons_succ]; try rfl
    case hf_18 => kernel_rfl
    case hQ_18 => exact fun _ _ _ h => h
    case hy_18 => exact Or.inr ⟨by rfl, rfl⟩
    try simp only [Act.put, List.setIfInBounds_toArray, List.set_cons_zero, List.set_cons_succ]
    refine wpAnyH_take (i := 18) (oi := ?oi_19) (v := undef) ?hi_19 (by kernel_rfl) ?hf_19 (by kernel_rfl) ?hQ_19 ?hy_19 (by assumption) ?_
    case hi_19 => simp only [List.getElem?_toArray, List.getElem?_cons_zero, List.getElem?_cons_succ]; try rfl
    case hf_19 => kernel_rfl
    case hQ_19 => exact fun _ _ _ h => h
    case hy_19 => exact Or.inr ⟨by rfl, rfl⟩
    try simp only [Act.put, List.setIfInBounds_toArray, List.set_cons_zero, List.set_cons_succ]
    refine wpAnyH_take (i := 19) (oi := ?oi_20) (v := ?_) ?hi_20 (by kernel_rfl) ?hf_20 (by kernel_rfl) ?hQ_20 ?hy_20 (by assumption) ?_
    case hi_20 => simp only [List.getElem?_toArray, List.getElem?_cons_zero, List.getElem?_cons_succ]; try rfl
    case hf_20 => kernel_rfl
    case hQ_20 => exact fun _ _ _ h => h
    case hy_20 =>
      refine Or.inl ⟨by rfl, ?_⟩
      intro W hSw
      obtain ⟨q0, q1, q2, q3, q4, q5, q6, q7, q8, q9⟩ := hSw
      go_simp
      try with_reducible rfl
    try simp only [Act.put, List.setIfInBounds_toArray, List.set_cons_zero, List.set_cons_succ]
    refine wpAnyH_done (by kernel_rfl) ?_ _
    refine NoPanic.normal ?_
    clear hHeld
    have HVF := HVD
    have HVE := Lib.hid (HW1.out.trans (HVF.out.mono HW1.out.size))
    go_wp2_with (refine wpList_store61 rfl (.tmp 2) (.tmp 32) rfl b2 _ 0 0 ⟨#[]⟩ none none 0 0 0 0 rfl rfl (HZ.out _ HVE.out) (Lib.hid rfl) ?_)
    refine bodyPost_ret (v := .tuple #[.agg #[.int .i64 0, .string ⟨#[]⟩, .int .i64 0, .slice none 0 0, .slice none 0 0], .bool false]) (res_cell results29 _ _ b2 61 _ _ rfl (setRow_heap _ b2 _ _ 61 (0, 0) (HZ.out _ HVE.out)) Tryz.underlying61 rfl (by kernel_rfl)) rfl ?_
    exact HQn.out (by rw [HOK.out]; simp) _ (below_setRow (HB0.out.trans (HVE.out.mono HB0.out.size)) HB2.out _)
  | true =>
    have HBO := Lib.hid (HBO1.out rfl)
    have HWI := Lib.hid (HWI1.out rfl)
    clear HBO1 HWI1
    cases wi with
    | false =>
      refine wp_region_noPanic ?_
      refine wp_region_held_drew (S := (fun W => W.cell? ⟨bx, 0, none⟩ = some (.int .i64 cd) ∧ W.cell? ⟨bx, 1, none⟩ = some (.int .u64 a) ∧ W.cell? ⟨bx, 2, none⟩ = some (.int .u64 b) ∧ W.cell? ⟨bx, 3, none⟩ = some (.int .i64 al) ∧ W.cell? ⟨bx, 4, none⟩ = some (.slice A n c) ∧ W.cell? ⟨b4, 0, none⟩ = some (.int .i64 fi) ∧ W.cell? ⟨b4, 1, none⟩ = some (.string nm) ∧ W.cell? ⟨b4, 2, none⟩ = some (.int .i64 fo) ∧ W.cell? ⟨b4, 3, none⟩ = some (.slice At nt ct) ∧ W.cell? ⟨b4, 4, none⟩ = some (.slice Ag ng cg))) (by kernel_rfl) hks0 (fun hHeld => ?_)
      refine wpAnyH_take (i := 0) (oi := ?oi_21) (v := ?_) ?hi_21 (by kernel_rfl) ?hf_21 (by kernel_rfl) ?hQ_21 ?hy_21 (by assumption) ?_
      case hi_21 => simp only [List.getElem?_toArray, List.getElem?_cons_zero, List.getElem?_cons_succ]; try rfl
      case hf_21 => kernel_rfl
      case hQ_21 => exact fun _ _ _ h => h
      case hy_21 =>
        refine Or.inl ⟨by rfl, ?_⟩
        intro W hSw
        obtain ⟨q0, q1, q2, q3, q4, q5, q6, q7, q8, q9⟩ := hSw
        go_simp
        try with_reducible rfl
      try simp only [Act.put, List.setIfInBounds_toArray, List.set_cons_zero, List.set_cons_succ]
      refine wpAnyH_take (i := 1) (oi := ?oi_22) (v := ?_) ?hi_22 (by kernel_rfl) ?hf_22 (by kernel_rfl) ?hQ_22 ?hy_22 (by assumption) ?_
      case hi_22 => simp only [List.getElem?_toArray, List.getElem?_cons_zero, List.getElem?_cons_succ]; try rfl
      case hf_22 => kernel_rfl
      case hQ_22 => exact fun _ _ _ h => h
      case hy_22 =>
        refine Or.inl ⟨by rfl, ?_⟩
        intro W hSw
        obtain ⟨q0, q1, q2, q3, q4, q5, q6, q7, q8, q9⟩ := hSw
        go_simp
        try with_reducible rfl
      try simp only [Act.put, List.setIfInBounds_toArray, List.set_cons_zero, List.set_cons_succ]
      refine wpAnyH_take (i := 2) (oi := ?oi_23) (v := ?_) ?hi_23 (by kernel_rfl) ?hf_23 (by kernel_rfl) ?hQ_23 ?hy_23 (by assumption) ?_
      case hi_23 => simp only [List.getElem?_toArray, List.getElem?_cons_zero, List.getElem?_cons_succ]; try rfl
      case hf_23 => kernel_rfl
      case hQ_23 => exact fun _ _ _ h => h
      case hy_23 =>
        refine Or.inl ⟨by rfl, ?_⟩
        intro W hSw
        obtain ⟨q0, q1, q2, q3, q4, q5, q6, q7, q8, q9⟩ := hSw
        go_simp
        try with_reducible rfl
      try simp only [Act.put, List.setIfInBounds_toArray, List.set_cons_zero, List.set_cons_succ]
      refine wpAnyH_take (i := 3) (oi := ?oi_24) (v := ?_) ?hi_24 (by kernel_rfl) ?hf_24 (by kernel_rfl) ?hQ_24 ?hy_24 (by assumption) ?_
      case hi_24 => simp only [List.getElem?_toArray, List.getElem?_cons_zero, List.getElem?_cons_succ]; try rfl
      case hf_24 => kernel_rfl
      case hQ_24 => exact fun _ _ _ h => h
      case hy_24 =>
        refine Or.inl ⟨by rfl, ?_⟩
        intro W hSw
        obtain ⟨q0, q1, q2, q3, q4, q5, q6, q7, q8, q9⟩ := hSw
        go_simp
        try with_reducible rfl
      try simp only [Act.put, List.setIfInBounds_toArray, List.set_cons_zero, List.set_cons_succ]
      refine wpAnyH_take (i := 4) (oi := ?oi_25) (v := ?_) ?hi_25 (by kernel_rfl) ?hf_25 (by kernel_rfl) ?hQ_25 ?hy_25 (by assumption) ?_
      case hi_25 => simp only [List.getElem?_toArray, List.getElem?_cons_zero, List.getElem?_cons_succ]; try rfl
      case hf_25 => kernel_rfl
      case hQ_25 => exact fun _ _ _ h => h
      case hy_25 =>
        refine Or.inl ⟨by rfl, ?_⟩
        intro W hSw
        obtain ⟨q0, q1, q2, q3, q4, q5, q6, q7, q8, q9⟩ := hSw
        go_simp
        try with_reducible rfl
      try simp only [Act.put, List.setIfInBounds_toArray, List.set_cons_zero, List.set_cons_succ]
      refine wpAnyH_ready (rs := [5]) (by kernel_rfl) (by simp) ?_
      refine AllReadyH.cons (o := ?oi_26) ?hi_26 (fun K hK => ?_) AllReadyH.nil
      case hi_26 => simp only [List.getElem?_toArray, List.getElem?_cons_zero, List.getElem?_cons_succ]; try rfl
      go_simp
      (go_at_call 55
       (with_reducible refine (HBO.out _ HVD.out).mono ?_)
       rintro e v1 ⟨rfl, hb1⟩
       have HV1 := Lib.hid (HVD.out.trans (hb1.mono HVD.out.size))
       have HV51 := Lib.hid (HV5.out.trans (hb1.mono HV5.out.size))
       have hk1 := HKS.out _ HV1.out HV51.out
       clear hb1)
      refine hK.out _ _ hk1 (fun hHeld => ?_)
      clear hK K
      try simp only [Act.put, List.setIfInBounds_toArray, List.set_cons_zero, List.set_cons_succ]
      refine wpAnyH_ready (rs := [6]) (by kernel_rfl) (by simp) ?_
      refine AllReadyH.cons (o := ?oi_27) ?hi_27 (fun K hK => ?_) AllReadyH.nil
      case hi_27 => simp only [List.getElem?_toArray, List.getElem?_cons_zero, List.getElem?_cons_succ]; try rfl
      go_simp
      (go_at_call 54
       (with_reducible refine (HWI.out _ HV1.out).mono ?_)
       rintro e v2 ⟨rfl, hb2⟩
       have HV2 := Lib.hid (HV1.out.trans (hb2.mono HV1.out.size))
       have HV52 := Lib.hid (HV51.out.trans (hb2.mono HV51.out.size))
       have hk2 := HKS.out _ HV2.out HV52.out
       clear hb2)
      refine hK.out _ _ hk2 (fun hHeld => ?_)
      clear hK K
      try simp only [Act.put, List.setIfInBounds_toArray, List.set_cons_zero, List.set_cons_succ]
      refine wpAnyH_take (i := 7) (oi := ?oi_28) (v := ?_) ?hi_28 (by kernel_rfl) ?hf_28 (by kernel_rfl) ?hQ_28 ?hy_28 (by assumption) ?_
      case hi_28 => simp only [List.getElem?_toArray, List.getElem?_cons_zero, List.getElem?_cons_succ]; try rfl
      case hf_28 => kernel_rfl
      case hQ_28 => exact fun _ _ _ h => h
      case hy_28 =>
        refine Or.inl ⟨by rfl, ?_⟩
        intro W hSw
        obtain ⟨q0, q1, q2, q3, q4, q5, q6, q7, q8, q9⟩ := hSw
        go_simp
        try with_reducible rfl
      try simp only [Act.put, List.setIfInBounds_toArray, List.set_cons_zero, List.set_cons_succ]
      refine wpAnyH_take (i := 8) (oi := ?oi_29) (v := ?_) ?hi_29 (by kernel_rfl) ?hf_29 (by kernel_rfl) ?hQ_29 ?hy_29 (by assumption) ?_
      case hi_29 => simp only [List.getElem?_toArray, List.getElem?_cons_zero, List.getElem?_cons_succ]; try rfl
      case hf_29 => kernel_rfl
      case hQ_29 => exact fun _ _ _ h => h
      case hy_29 =>
        refine Or.inl ⟨by rfl, ?_⟩
        intro W hSw
        obtain ⟨q0, q1, q2, q3, q4, q5, q6, q7, q8, q9⟩ := hSw
        go_simp
        try with_reducible rfl
      try simp only [Act.put, List.setIfInBounds_toArray, List.set_cons_zero, List.set_cons_succ]
      refine wpAnyH_take (i := 9) (oi := ?oi_30) (v := ?_) ?hi_30 (by kernel_rfl) ?hf_30 (by kernel_rfl) ?hQ_30 ?hy_30 (by assumption) ?_
      case hi_30 => simp only [List.getElem?_toArray, List.getElem?_cons_zero, List.getElem?_cons_succ]; try rfl
      case hf_30 => kernel_rfl
      case hQ_30 => exact fun _ _ _ h => h
      case hy_30 =>
        refine Or.inl ⟨by rfl, ?_⟩
        intro W hSw
        obtain ⟨q0, q1, q2, q3, q4, q5, q6, q7, q8, q9⟩ := hSw
        go_simp
        try with_reducible rfl
      try simp only [Act.put, List.setIfInBounds_toArray, List.set_cons_zero, List.set_cons_succ]
      refine wpAnyH_take (i := 10) (oi := ?oi_31) (v := undef) ?hi_31 (by kernel_rfl) ?hf_31 (by kernel_rfl) ?hQ_31 ?hy_31 (by assumption) ?_
      case hi_31 => simp only [List.getElem?_toArray, List.getElem?_cons_zero, List.getElem?_cons_succ]; try rfl
      case hf_31 => kernel_rfl
      case hQ_31 => exact fun _ _ _ h => h
      case hy_31 => exact Or.inr ⟨by rfl, rfl⟩
      try simp only [Act.put, List.setIfInBounds_toArray, List.set_cons_zero, List.set_cons_succ]
      refine wpAnyH_take (i := 11) (oi := ?oi_32) (v := undef) ?hi_32 (by kernel_rfl) ?hf_32 (by kernel_rfl) ?hQ_32 ?hy_32 (by assumption) ?_
      case hi_32 => simp only [List.getElem?_toArray, List.getElem?_cons_zero, List.getElem?_cons_succ]; try rfl
      case hf_32 => kernel_rfl
      case hQ_32 => exact fun _ _ _ h => h
      case hy_32 => exact Or.inr ⟨by rfl, rfl⟩
      try simp only [Act.put, List.setIfInBounds_toArray, List.set_cons_zero, List.set_cons_succ]
      refine wpAnyH_take (i := 12) (oi := ?oi_33) (v := undef) ?hi_33 (by kernel_rfl) ?hf_33 (by kernel_rfl) ?hQ_33 ?hy_33 (by assumption) ?_
      case hi_33 => simp only [List.getElem?_toArray, List.getElem?_cons_zero, List.getElem?_cons_succ]; try rfl
      case hf_33 => kernel_rfl
      case hQ_33 => exact fun _ _ _ h => h
      case hy_33 => exact Or.inr ⟨by rfl, rfl⟩
      try simp only [Act.put, List.setIfInBounds_toArray, List.set_cons_zero, List.set_cons_succ]
      refine wpAnyH_take (i := 13) (oi := ?oi_34) (v := undef) ?hi_34 (by kernel_rfl) ?hf_34 (by kernel_rfl) ?hQ_34 ?hy_34 (by assumption) ?_
      case hi_34 => simp only [List.getElem?_toArray, List.getElem?_cons_zero, List.getElem?_cons_succ]; try rfl
      case hf_34 => kernel_rfl
      case hQ_34 => exact fun _ _ _ h => h
      case hy_34 => exact Or.inr ⟨by rfl, rfl⟩
      try simp only [Act.put, List.setIfInBounds_toArray, List.set_cons_zero, List.set_cons_succ]
      refine wpAnyH_take (i := 14) (oi := ?oi_35) (v := undef) ?hi_35 (by kernel_rfl) ?hf_35 (by kernel_rfl) ?hQ_35 ?hy_35 (by assumption) ?_
      case hi_35 => simp only [List.getElem?_toArray, List.getElem?_cons_zero, List.getElem?_cons_succ]; try rfl
      case hf_35 => kernel_rfl
      case hQ_35 => exact fun _ _ _ h => h
      case hy_35 => exact Or.inr ⟨by rfl, rfl⟩
      try simp only [Act.put, List.setIfInBounds_toArray, List.set_cons_zero, List.set_cons_succ]
      refine wpAnyH_take (i := 15) (oi := ?oi_36) (v := undef) ?hi_36 (by kernel_rfl) ?hf_36 (by kernel_rfl) ?hQ_36 ?hy_36 (by assumption) ?_
      case hi_36 => simp only [List.getElem?_toArray, List.getElem?_cons_zero, List.getElem?_cons_succ]; try rfl
      case hf_36 => kernel_rfl
      case hQ_36 => exact fun _ _ _ h => h
      case hy_36 => exact Or.inr ⟨by rfl, rfl⟩
      try simp only [Act.put, List.setIfInBounds_toArray, List.set_cons_zero, List.set_cons_succ]
      refine wpAnyH_take (i := 16) (oi := ?oi_37) (v := undef) ?hi_37 (by kernel_rfl) ?hf_37 (by kernel_rfl) ?hQ_37 ?hy_37 (by assumption) ?_
      case hi_37 => simp only [List.getElem?_toArray, List.getElem?_cons_zero, List.getElem?_cons_succ]; try rfl
      case hf_37 => kernel_rfl
      case hQ_37 => exact fun _ _ _ h => h
      case hy_37 => exact Or.inr ⟨by rfl, rfl⟩
      try simp only [Act.put, List.setIfInBounds_toArray, List.set_cons_zero, List.set_cons_succ]
      refine wpAnyH_take (i := 17) (oi := ?oi_38) (v := undef) ?hi_38 (by kernel_rfl) ?hf_38 (by kernel_rfl) ?hQ_38 ?hy_38 (by assumption) ?_
      case hi_38 => simp only [List.getElem?_toArray, List.getElem?_cons_zero, List.getElem?_cons_succ]; try rfl
      case hf_38 => kernel_rfl
      case hQ_38 => exact fun _ _ _ h => h
      case hy_38 => exact Or.inr ⟨by rfl, rfl⟩
      try simp only [Act.put, List.setIfInBounds_toArray, List.set_cons_zero, List.set_cons_succ]
      refine wpAnyH_take (i := 18) (oi := ?oi_39) (v := undef) ?hi_39 (by kernel_rfl) ?hf_39 (by kernel_rfl) ?hQ_39 ?hy_39 (by assumption) ?_
      case hi_39 => simp only [List.getElem?_toArray, List.getElem?_cons_zero, List.getElem?_cons_succ]; try rfl
      case hf_39 => kernel_rfl
      case hQ_39 => exact fun _ _ _ h => h
      case hy_39 => exact Or.inr ⟨by rfl, rfl⟩
      try simp only [Act.put, List.setIfInBounds_toArray, List.set_cons_zero, List.set_cons_succ]
      refine wpAnyH_take (i := 19) (oi := ?oi_40) (v := ?_) ?hi_40 (by kernel_rfl) ?hf_40 (by kernel_rfl) ?hQ_40 ?hy_40 (by assumption) ?_
      case hi_40 => simp only [List.getElem?_toArray, List.getElem?_cons_zero, List.getElem?_cons_succ]; try rfl
      case hf_40 => kernel_rfl
      case hQ_40 => exact fun _ _ _ h => h
      case hy_40 =>
        refine Or.inl ⟨by rfl, ?_⟩
        intro W hSw
        obtain ⟨q0, q1, q2, q3, q4, q5, q6, q7, q8, q9⟩ := hSw
        go_simp
        try with_reducible rfl
      try simp only [Act.put, List.setIfInBounds_toArray, List.set_cons_zero, List.set_cons_succ]
      refine wpAnyH_done (by kernel_rfl) ?_ _
      refine NoPanic.normal ?_
      clear hHeld
      have HVF := HV2
      have HVE := Lib.hid (HW1.out.trans (HVF.out.mono HW1.out.size))
      go_wp2_with (refine wpList_store61 rfl (.tmp 2) (.tmp 32) rfl b2 _ 0 0 ⟨#[]⟩ none none 0 0 0 0 rfl rfl (HZ.out _ HVE.out) (Lib.hid rfl) ?_)
      refine bodyPost_ret (v := .tuple #[.agg #[.int .i64 0, .string ⟨#[]⟩, .int .i64 0, .slice none 0 0, .slice none 0 0], .bool false]) (res_cell results29 _ _ b2 61 _ _ rfl (setRow_heap _ b2 _ _ 61 (0, 0) (HZ.out _ HVE.out)) Tryz.underlying61 rfl (by kernel_rfl)) rfl ?_
      exact HQn.out (by rw [HOK.out]; simp) _ (below_setRow (HB0.out.trans (HVE.out.mono HB0.out.size)) HB2.out _)
    | true =>
      by_cases hf1 : fo = 1
      · subst hf1
        cases bk with
        | false =>
          refine wp_region_noPanic ?_
          refine wp_region_held_drew (S := (fun W => W.cell? ⟨bx, 0, none⟩ = some (.int .i64 cd) ∧ W.cell? ⟨bx, 1, none⟩ = some (.int .u64 a) ∧ W.cell? ⟨bx, 2, none⟩ = some (.int .u64 b) ∧ W.cell? ⟨bx, 3, none⟩ = some (.int .i64 al) ∧ W.cell? ⟨bx, 4, none⟩ = some (.slice A n c) ∧ W.cell? ⟨b4, 0, none⟩ = some (.int .i64 fi) ∧ W.cell? ⟨b4, 1, none⟩ = some (.string nm) ∧ W.cell? ⟨b4, 2, none⟩ = some (.int .i64 1) ∧ W.cell? ⟨b4, 3, none⟩ = some (.slice At nt ct) ∧ W.cell? ⟨b4, 4, none⟩ = some (.slice Ag ng cg))) (by kernel_rfl) hks0 (fun hHeld => ?_)
          refine wpAnyH_take (i := 0) (oi := ?oi_41) (v := ?_) ?hi_41 (by kernel_rfl) ?hf_41 (by kernel_rfl) ?hQ_41 ?hy_41 (by assumption) ?_
          case hi_41 => simp only [List.getElem?_toArray, List.getElem?_cons_zero, List.getElem?_cons_succ]; try rfl
          case hf_41 => kernel_rfl
          case hQ_41 => exact fun _ _ _ h => h
          case hy_41 =>
            refine Or.inl ⟨by rfl, ?_⟩
            intro W hSw
            obtain ⟨q0, q1, q2, q3, q4, q5, q6, q7, q8, q9⟩ := hSw
            go_simp
            try with_reducible rfl
          try simp only [Act.put, List.setIfInBounds_toArray, List.set_cons_zero, List.set_cons_succ]
          refine wpAnyH_take (i := 1) (oi := ?oi_42) (v := ?_) ?hi_42 (by kernel_rfl) ?hf_42 (by kernel_rfl) ?hQ_42 ?hy_42 (by assumption) ?_
          case hi_42 => simp only [List.getElem?_toArray, List.getElem?_cons_zero, List.getElem?_cons_succ]; try rfl
          case hf_42 => kernel_rfl
          case hQ_42 => exact fun _ _ _ h => h
          case hy_42 =>
            refine Or.inl ⟨by rfl, ?_⟩
            intro W hSw
            obtain ⟨q0, q1, q2, q3, q4, q5, q6, q7, q8, q9⟩ := hSw
            go_simp
            try with_reducible rfl
          try simp only [Act.put, List.setIfInBounds_toArray, List.set_cons_zero, List.set_cons_succ]
          refine wpAnyH_take (i := 2) (oi := ?oi_43) (v := ?_) ?hi_43 (by kernel_rfl) ?hf_43 (by kernel_rfl) ?hQ_43 ?hy_43 (by assumption) ?_
          case hi_43 => simp only [List.getElem?_toArray, List.getElem?_cons_zero, List.getElem?_cons_succ]; try rfl
          case hf_43 => kernel_rfl
          case hQ_43 => exact fun _ _ _ h => h
          case hy_43 =>
            refine Or.inl ⟨by rfl, ?_⟩
            intro W hSw
            obtain ⟨q0, q1, q2, q3, q4, q5, q6, q7, q8, q9⟩ := hSw
            go_simp
            try with_reducible rfl
          try simp only [Act.put, List.setIfInBounds_toArray, List.set_cons_zero, List.set_cons_succ]
          refine wpAnyH_take (i := 3) (oi := ?oi_44) (v := ?_) ?hi_44 (by kernel_rfl) ?hf_44 (by kernel_rfl) ?hQ_44 ?hy_44 (by assumption) ?_
          case hi_44 => simp only [List.getElem?_toArray, List.getElem?_cons_zero, List.getElem?_cons_succ]; try rfl
          case hf_44 => kernel_rfl
          case hQ_44 => exact fun _ _ _ h => h
          case hy_44 =>
            refine Or.inl ⟨by rfl, ?_⟩
            intro W hSw
            obtain ⟨q0, q1, q2, q3, q4, q5, q6, q7, q8, q9⟩ := hSw
            go_simp
            try with_reducible rfl
          try simp only [Act.put, List.setIfInBounds_toArray, List.set_cons_zero, List.set_cons_succ]
          refine wpAnyH_take (i := 4) (oi := ?oi_45) (v := ?_) ?hi_45 (by kernel_rfl) ?hf_45 (by kernel_rfl) ?hQ_45 ?hy_45 (by assumption) ?_
          case hi_45 => simp only [List.getElem?_toArray, List.getElem?_cons_zero, List.getElem?_cons_succ]; try rfl
          case hf_45 => kernel_rfl
          case hQ_45 => exact fun _ _ _ h => h
          case hy_45 =>
            refine Or.inl ⟨by rfl, ?_⟩
            intro W hSw
            obtain ⟨q0, q1, q2, q3, q4, q5, q6, q7, q8, q9⟩ := hSw
            go_simp
            try with_reducible rfl
          try simp only [Act.put, List.setIfInBounds_toArray, List.set_cons_zero, List.set_cons_succ]
          refine wpAnyH_ready (rs := [5]) (by kernel_rfl) (by simp) ?_
          refine AllReadyH.cons (o := ?oi_46) ?hi_46 (fun K hK => ?_) AllReadyH.nil
          case hi_46 => simp only [List.getElem?_toArray, List.getElem?_cons_zero, List.getElem?_cons_succ]; try rfl
          go_simp
          (go_at_call 55
           (with_reducible refine (HBO.out _ HVD.out).mono ?_)
           rintro e v1 ⟨rfl, hb1⟩
           have HV1 := Lib.hid (HVD.out.trans (hb1.mono HVD.out.size))
           have HV51 := Lib.hid (HV5.out.trans (hb1.mono HV5.out.size))
           have hk1 := HKS.out _ HV1.out HV51.out
           clear hb1)
          refine hK.out _ _ hk1 (fun hHeld => ?_)
          clear hK K
          try simp only [Act.put, List.setIfInBounds_toArray, List.set_cons_zero, List.set_cons_succ]
          refine wpAnyH_ready (rs := [6]) (by kernel_rfl) (by simp) ?_
          refine AllReadyH.cons (o := ?oi_47) ?hi_47 (fun K hK => ?_) AllReadyH.nil
          case hi_47 => simp only [List.getElem?_toArray, List.getElem?_cons_zero, List.getElem?_cons_succ]; try rfl
          go_simp
          (go_at_call 54
           (with_reducible refine (HWI.out _ HV1.out).mono ?_)
           rintro e v2 ⟨rfl, hb2⟩
           have HV2 := Lib.hid (HV1.out.trans (hb2.mono HV1.out.size))
           have HV52 := Lib.hid (HV51.out.trans (hb2.mono HV51.out.size))
           have hk2 := HKS.out _ HV2.out HV52.out
           clear hb2)
          refine hK.out _ _ hk2 (fun hHeld => ?_)
          clear hK K
          try simp only [Act.put, List.setIfInBounds_toArray, List.set_cons_zero, List.set_cons_succ]
          refine wpAnyH_take (i := 7) (oi := ?oi_48) (v := ?_) ?hi_48 (by kernel_rfl) ?hf_48 (by kernel_rfl) ?hQ_48 ?hy_48 (by assumption) ?_
          case hi_48 => simp only [List.getElem?_toArray, List.getElem?_cons_zero, List.getElem?_cons_succ]; try rfl
          case hf_48 => kernel_rfl
          case hQ_48 => exact fun _ _ _ h => h
          case hy_48 =>
            refine Or.inl ⟨by rfl, ?_⟩
            intro W hSw
            obtain ⟨q0, q1, q2, q3, q4, q5, q6, q7, q8, q9⟩ := hSw
            go_simp
            try with_reducible rfl
          try simp only [Act.put, List.setIfInBounds_toArray, List.set_cons_zero, List.set_cons_succ]
          refine wpAnyH_take (i := 8) (oi := ?oi_49) (v := ?_) ?hi_49 (by kernel_rfl) ?hf_49 (by kernel_rfl) ?hQ_49 ?hy_49 (by assumption) ?_
          case hi_49 => simp only [List.getElem?_toArray, List.getElem?_cons_zero, List.getElem?_cons_succ]; try rfl
          case hf_49 => kernel_rfl
          case hQ_49 => exact fun _ _ _ h => h
          case hy_49 =>
            refine Or.inl ⟨by rfl, ?_⟩
            intro W hSw
            obtain ⟨q0, q1, q2, q3, q4, q5, q6, q7, q8, q9⟩ := hSw
            go_simp
            try with_reducible rfl
          try simp only [Act.put, List.setIfInBounds_toArray, List.set_cons_zero, List.set_cons_succ]
          refine wpAnyH_take (i := 9) (oi := ?oi_50) (v := ?_) ?hi_50 (by kernel_rfl) ?hf_50 (by kernel_rfl) ?hQ_50 ?hy_50 (by assumption) ?_
          case hi_50 => simp only [List.getElem?_toArray, List.getElem?_cons_zero, List.getElem?_cons_succ]; try rfl
          case hf_50 => kernel_rfl
          case hQ_50 => exact fun _ _ _ h => h
          case hy_50 =>
            refine Or.inl ⟨by rfl, ?_⟩
            intro W hSw
            obtain ⟨q0, q1, q2, q3, q4, q5, q6, q7, q8, q9⟩ := hSw
            go_simp
            try with_reducible rfl
          try simp only [Act.put, List.setIfInBounds_toArray, List.set_cons_zero, List.set_cons_succ]
          refine wpAnyH_take (i := 10) (oi := ?oi_51) (v := ?_) ?hi_51 (by kernel_rfl) ?hf_51 (by kernel_rfl) ?hQ_51 ?hy_51 (by assumption) ?_
          case hi_51 => simp only [List.getElem?_toArray, List.getElem?_cons_zero, List.getElem?_cons_succ]; try rfl
          case hf_51 => kernel_rfl
          case hQ_51 => exact fun _ _ _ h => h
          case hy_51 =>
            refine Or.inl ⟨by rfl, ?_⟩
            intro W hSw
            obtain ⟨q0, q1, q2, q3, q4, q5, q6, q7, q8, q9⟩ := hSw
            go_simp
            try with_reducible rfl
          try simp only [Act.put, List.setIfInBounds_toArray, List.set_cons_zero, List.set_cons_succ]
          refine wpAnyH_take (i := 11) (oi := ?oi_52) (v := ?_) ?hi_52 (by kernel_rfl) ?hf_52 (by kernel_rfl) ?hQ_52 ?hy_52 (by assumption) ?_
          case hi_52 => simp only [List.getElem?_toArray, List.getElem?_cons_zero, List.getElem?_cons_succ]; try rfl
          case hf_52 => kernel_rfl
          case hQ_52 => exact fun _ _ _ h => h
          case hy_52 =>
            refine Or.inl ⟨by rfl, ?_⟩
            intro W hSw
            obtain ⟨q0, q1, q2, q3, q4, q5, q6, q7, q8, q9⟩ := hSw
            go_simp
            try with_reducible rfl
          try simp only [Act.put, List.setIfInBounds_toArray, List.set_cons_zero, List.set_cons_succ]
          refine wpAnyH_take (i := 12) (oi := ?oi_53) (v := ?_) ?hi_53 (by kernel_rfl) ?hf_53 (by kernel_rfl) ?hQ_53 ?hy_53 (by assumption) ?_
          case hi_53 => simp only [List.getElem?_toArray, List.getElem?_cons_zero, List.getElem?_cons_succ]; try rfl
          case hf_53 => kernel_rfl
          case hQ_53 => exact fun _ _ _ h => h
          case hy_53 =>
            refine Or.inl ⟨by rfl, ?_⟩
            intro W hSw
            obtain ⟨q0, q1, q2, q3, q4, q5, q6, q7, q8, q9⟩ := hSw
            go_simp
            try with_reducible rfl
          try simp only [Act.put, List.setIfInBounds_toArray, List.set_cons_zero, List.set_cons_succ]
          refine wpAnyH_take (i := 13) (oi := ?oi_54) (v := ?_) ?hi_54 (by kernel_rfl) ?hf_54 (by kernel_rfl) ?hQ_54 ?hy_54 (by assumption) ?_
          case hi_54 => simp only [List.getElem?_toArray, List.getElem?_cons_zero, List.getElem?_cons_succ]; try rfl
          case hf_54 => kernel_rfl
          case hQ_54 => exact fun _ _ _ h => h
          case hy_54 =>
            refine Or.inl ⟨by rfl, ?_⟩
            intro W hSw
            obtain ⟨q0, q1, q2, q3, q4, q5, q6, q7, q8, q9⟩ := hSw
            go_simp
            try with_reducible rfl
          try simp only [Act.put, List.setIfInBounds_toArray, List.set_cons_zero, List.set_cons_succ]
          refine wpAnyH_take (i := 14) (oi := ?oi_55) (v := ?_) ?hi_55 (by kernel_rfl) ?hf_55 (by kernel_rfl) ?hQ_55 ?hy_55 (by assumption) ?_
          case hi_55 => simp only [List.getElem?_toArray, List.getElem?_cons_zero, List.getElem?_cons_succ]; try rfl
          case hf_55 => kernel_rfl
          case hQ_55 => exact fun _ _ _ h => h
          case hy_55 =>
            refine Or.inl ⟨by rfl, ?_⟩
            intro W hSw
            obtain ⟨q0, q1, q2, q3, q4, q5, q6, q7, q8, q9⟩ := hSw
            go_simp
            try with_reducible rfl
          try simp only [Act.put, List.setIfInBounds_toArray, List.set_cons_zero, List.set_cons_succ]
          refine wpAnyH_take (i := 15) (oi := ?oi_56) (v := ?_) ?hi_56 (by kernel_rfl) ?hf_56 (by kernel_rfl) ?hQ_56 ?hy_56 (by assumption) ?_
          case hi_56 => simp only [List.getElem?_toArray, List.getElem?_cons_zero, List.getElem?_cons_succ]; try rfl
          case hf_56 => kernel_rfl
          case hQ_56 => exact fun _ _ _ h => h
          case hy_56 =>
            refine Or.inl ⟨by rfl, ?_⟩
            intro W hSw
            obtain ⟨q0, q1, q2, q3, q4, q5, q6, q7, q8, q9⟩ := hSw
            go_simp
            try with_reducible rfl
          try simp only [Act.put, List.setIfInBounds_toArray, List.set_cons_zero, List.set_cons_succ]
          refine wpAnyH_ready (rs := [16]) (by kernel_rfl) (by simp) ?_
          refine AllReadyH.cons (o := ?oi_57) ?hi_57 (fun K hK => ?_) AllReadyH.nil
          case hi_57 => simp only [List.getElem?_toArray, List.getElem?_cons_zero, List.getElem?_cons_succ]; try rfl
          go_simp
          (go_at_call 56
           (with_reducible refine (HBK.out _).mono ?_)
           rintro e v3 ⟨rfl, rfl⟩)
          refine hK.out _ _ hk2 (fun hHeld => ?_)
          clear hK K
          try simp only [Act.put, List.setIfInBounds_toArray, List.set_cons_zero, List.set_cons_succ]
          refine wpAnyH_take (i := 17) (oi := ?oi_58) (v := ?_) ?hi_58 (by kernel_rfl) ?hf_58 (by kernel_rfl) ?hQ_58 ?hy_58 (by assumption) ?_
          case hi_58 => simp only [List.getElem?_toArray, List.getElem?_cons_zero, List.getElem?_cons_succ]; try rfl
          case hf_58 => kernel_rfl
          case hQ_58 => exact fun _ _ _ h => h
          case hy_58 =>
            refine Or.inl ⟨by rfl, ?_⟩
            intro W hSw
            obtain ⟨q0, q1, q2, q3, q4, q5, q6, q7, q8, q9⟩ := hSw
            go_simp
            try with_reducible rfl
          try simp only [Act.put, List.setIfInBounds_toArray, List.set_cons_zero, List.set_cons_succ]
          refine wpAnyH_take (i := 18) (oi := ?oi_59) (v := ?_) ?hi_59 (by kernel_rfl) ?hf_59 (by kernel_rfl) ?hQ_59 ?hy_59 (by assumption) ?_
          case hi_59 => simp only [List.getElem?_toArray, List.getElem?_cons_zero, List.getElem?_cons_succ]; try rfl
          case hf_59 => kernel_rfl
          case hQ_59 => exact fun _ _ _ h => h
          case hy_59 =>
            refine Or.inl ⟨by rfl, ?_⟩
            intro W hSw
            obtain ⟨q0, q1, q2, q3, q4, q5, q6, q7, q8, q9⟩ := hSw
            go_simp
            try with_reducible rfl
          try simp only [Act.put, List.setIfInBounds_toArray, List.set_cons_zero, List.set_cons_succ]
          refine wpAnyH_take (i := 19) (oi := ?oi_60) (v := ?_) ?hi_60 (by kernel_rfl) ?hf_60 (by kernel_rfl) ?hQ_60 ?hy_60 (by assumption) ?_
          case hi_60 => simp only [List.getElem?_toArray, List.getElem?_cons_zero, List.getElem?_cons_succ]; try rfl
          case hf_60 => kernel_rfl
          case hQ_60 => exact fun _ _ _ h => h
          case hy_60 =>
            refine Or.inl ⟨by rfl, ?_⟩
            intro W hSw
            obtain ⟨q0, q1, q2, q3, q4, q5, q6, q7, q8, q9⟩ := hSw
            go_simp
            try with_reducible rfl
          try simp only [Act.put, List.setIfInBounds_toArray, List.set_cons_zero, List.set_cons_succ]
          refine wpAnyH_done (by kernel_rfl) ?_ _
          refine NoPanic.normal ?_
          clear hHeld
          have HVF := HV2
          have HVE := Lib.hid (HW1.out.trans (HVF.out.mono HW1.out.size))
          go_wp2_with (refine wpList_store61 rfl (.tmp 2) (.tmp 32) rfl b2 _ 0 0 ⟨#[]⟩ none none 0 0 0 0 rfl rfl (HZ.out _ HVE.out) (Lib.hid rfl) ?_)
          refine bodyPost_ret (v := .tuple #[.agg #[.int .i64 0, .string ⟨#[]⟩, .int .i64 0, .slice none 0 0, .slice none 0 0], .bool false]) (res_cell results29 _ _ b2 61 _ _ rfl (setRow_heap _ b2 _ _ 61 (0, 0) (HZ.out _ HVE.out)) Tryz.underlying61 rfl (by kernel_rfl)) rfl ?_
          exact HQn.out (by rw [HOK.out]; simp) _ (below_setRow (HB0.out.trans (HVE.out.mono HB0.out.size)) HB2.out _)
        | true =>
          refine wp_region_noPanic ?_
          refine wp_region_held_drew (S := (fun W => W.cell? ⟨bx, 0, none⟩ = some (.int .i64 cd) ∧ W.cell? ⟨bx, 1, none⟩ = some (.int .u64 a) ∧ W.cell? ⟨bx, 2, none⟩ = some (.int .u64 b) ∧ W.cell? ⟨bx, 3, none⟩ = some (.int .i64 al) ∧ W.cell? ⟨bx, 4, none⟩ = some (.slice A n c) ∧ W.cell? ⟨b4, 0, none⟩ = some (.int .i64 fi) ∧ W.cell? ⟨b4, 1, none⟩ = some (.string nm) ∧ W.cell? ⟨b4, 2, none⟩ = some (.int .i64 1) ∧ W.cell? ⟨b4, 3, none⟩ = some (.slice At nt ct) ∧ W.cell? ⟨b4, 4, none⟩ = some (.slice Ag ng cg))) (by kernel_rfl) hks0 (fun hHeld => ?_)
          refine wpAnyH_take (i := 0) (oi := ?oi_61) (v := ?_) ?hi_61 (by kernel_rfl) ?hf_61 (by kernel_rfl) ?hQ_61 ?hy_61 (by assumption) ?_
          case hi_61 => simp only [List.getElem?_toArray, List.getElem?_cons_zero, List.getElem?_cons_succ]; try rfl
          case hf_61 => kernel_rfl
          case hQ_61 => exact fun _ _ _ h => h
          case hy_61 =>
            refine Or.inl ⟨by rfl, ?_⟩
            intro W hSw
            obtain ⟨q0, q1, q2, q3, q4, q5, q6, q7, q8, q9⟩ := hSw
            go_simp
            try with_reducible rfl
          try simp only [Act.put, List.setIfInBounds_toArray, List.set_cons_zero, List.set_cons_succ]
          refine wpAnyH_take (i := 1) (oi := ?oi_62) (v := ?_) ?hi_62 (by kernel_rfl) ?hf_62 (by kernel_rfl) ?hQ_62 ?hy_62 (by assumption) ?_
          case hi_62 => simp only [List.getElem?_toArray, List.getElem?_cons_zero, List.getElem?_cons_succ]; try rfl
          case hf_62 => kernel_rfl
          case hQ_62 => exact fun _ _ _ h => h
          case hy_62 =>
            refine Or.inl ⟨by rfl, ?_⟩
            intro W hSw
            obtain ⟨q0, q1, q2, q3, q4, q5, q6, q7, q8, q9⟩ := hSw
            go_simp
            try with_reducible rfl
          try simp only [Act.put, List.setIfInBounds_toArray, List.set_cons_zero, List.set_cons_succ]
          refine wpAnyH_take (i := 2) (oi := ?oi_63) (v := ?_) ?hi_63 (by kernel_rfl) ?hf_63 (by kernel_rfl) ?hQ_63 ?hy_63 (by assumption) ?_
          case hi_63 => simp only [List.getElem?_toArray, List.getElem?_cons_zero, List.getElem?_cons_succ]; try rfl
          case hf_63 => kernel_rfl
          case hQ_63 => exact fun _ _ _ h => h
          case hy_63 =>
            refine Or.inl ⟨by rfl, ?_⟩
            intro W hSw
            obtain ⟨q0, q1, q2, q3, q4, q5, q6, q7, q8, q9⟩ := hSw
            go_simp
            try with_reducible rfl
          try simp only [Act.put, List.setIfInBounds_toArray, List.set_cons_zero, List.set_cons_succ]
          refine wpAnyH_take (i := 3) (oi := ?oi_64) (v := ?_) ?hi_64 (by kernel_rfl) ?hf_64 (by kernel_rfl) ?hQ_64 ?hy_64 (by assumption) ?_
          case hi_64 => simp only [List.getElem?_toArray, List.getElem?_cons_zero, List.getElem?_cons_succ]; try rfl
          case hf_64 => kernel_rfl
          case hQ_64 => exact fun _ _ _ h => h
          case hy_64 =>
            refine Or.inl ⟨by rfl, ?_⟩
            intro W hSw
            obtain ⟨q0, q1, q2, q3, q4, q5, q6, q7, q8, q9⟩ := hSw
            go_simp
            try with_reducible rfl
          try simp only [Act.put, List.setIfInBounds_toArray, List.set_cons_zero, List.set_cons_succ]
          refine wpAnyH_take (i := 4) (oi := ?oi_65) (v := ?_) ?hi_65 (by kernel_rfl) ?hf_65 (by kernel_rfl) ?hQ_65 ?hy_65 (by assumption) ?_
          case hi_65 => simp only [List.getElem?_toArray, List.getElem?_cons_zero, List.getElem?_cons_succ]; try rfl
          case hf_65 => kernel_rfl
          case hQ_65 => exact fun _ _ _ h => h
          case hy_65 =>
            refine Or.inl ⟨by rfl, ?_⟩
            intro W hSw
            obtain ⟨q0, q1, q2, q3, q4, q5, q6, q7, q8, q9⟩ := hSw
            go_simp
            try with_reducible rfl
          try simp only [Act.put, List.setIfInBounds_toArray, List.set_cons_zero, List.set_cons_succ]
          refine wpAnyH_ready (rs := [5]) (by kernel_rfl) (by simp) ?_
          refine AllReadyH.cons (o := ?oi_66) ?hi_66 (fun K hK => ?_) AllReadyH.nil
          case hi_66 => simp only [List.getElem?_toArray, List.getElem?_cons_zero, List.getElem?_cons_succ]; try rfl
          go_simp
          (go_at_call 55
           (with_reducible refine (HBO.out _ HVD.out).mono ?_)
           rintro e v1 ⟨rfl, hb1⟩
           have HV1 := Lib.hid (HVD.out.trans (hb1.mono HVD.out.size))
           have HV51 := Lib.hid (HV5.out.trans (hb1.mono HV5.out.size))
           have hk1 := HKS.out _ HV1.out HV51.out
           clear hb1)
          refine hK.out _ _ hk1 (fun hHeld => ?_)
          clear hK K
          try simp only [Act.put, List.setIfInBounds_toArray, List.set_cons_zero, List.set_cons_succ]
          refine wpAnyH_ready (rs := [6]) (by kernel_rfl) (by simp) ?_
          refine AllReadyH.cons (o := ?oi_67) ?hi_67 (fun K hK => ?_) AllReadyH.nil
          case hi_67 => simp only [List.getElem?_toArray, List.getElem?_cons_zero, List.getElem?_cons_succ]; try rfl
          go_simp
          (go_at_call 54
           (with_reducible refine (HWI.out _ HV1.out).mono ?_)
           rintro e v2 ⟨rfl, hb2⟩
           have HV2 := Lib.hid (HV1.out.trans (hb2.mono HV1.out.size))
           have HV52 := Lib.hid (HV51.out.trans (hb2.mono HV51.out.size))
           have hk2 := HKS.out _ HV2.out HV52.out
           clear hb2)
          refine hK.out _ _ hk2 (fun hHeld => ?_)
          clear hK K
          try simp only [Act.put, List.setIfInBounds_toArray, List.set_cons_zero, List.set_cons_succ]
          refine wpAnyH_take (i := 7) (oi := ?oi_68) (v := ?_) ?hi_68 (by kernel_rfl) ?hf_68 (by kernel_rfl) ?hQ_68 ?hy_68 (by assumption) ?_
          case hi_68 => simp only [List.getElem?_toArray, List.getElem?_cons_zero, List.getElem?_cons_succ]; try rfl
          case hf_68 => kernel_rfl
          case hQ_68 => exact fun _ _ _ h => h
          case hy_68 =>
            refine Or.inl ⟨by rfl, ?_⟩
            intro W hSw
            obtain ⟨q0, q1, q2, q3, q4, q5, q6, q7, q8, q9⟩ := hSw
            go_simp
            try with_reducible rfl
          try simp only [Act.put, List.setIfInBounds_toArray, List.set_cons_zero, List.set_cons_succ]
          refine wpAnyH_take (i := 8) (oi := ?oi_69) (v := ?_) ?hi_69 (by kernel_rfl) ?hf_69 (by kernel_rfl) ?hQ_69 ?hy_69 (by assumption) ?_
          case hi_69 => simp only [List.getElem?_toArray, List.getElem?_cons_zero, List.getElem?_cons_succ]; try rfl
          case hf_69 => kernel_rfl
          case hQ_69 => exact fun _ _ _ h => h
          case hy_69 =>
            refine Or.inl ⟨by rfl, ?_⟩
            intro W hSw
            obtain ⟨q0, q1, q2, q3, q4, q5, q6, q7, q8, q9⟩ := hSw
            go_simp
            try with_reducible rfl
          try simp only [Act.put, List.setIfInBounds_toArray, List.set_cons_zero, List.set_cons_succ]
          refine wpAnyH_take (i := 9) (oi := ?oi_70) (v := ?_) ?hi_70 (by kernel_rfl) ?hf_70 (by kernel_rfl) ?hQ_70 ?hy_70 (by assumption) ?_
          case hi_70 => simp only [List.getElem?_toArray, List.getElem?_cons_zero, List.getElem?_cons_succ]; try rfl
          case hf_70 => kernel_rfl
          case hQ_70 => exact fun _ _ _ h => h
          case hy_70 =>
            refine Or.inl ⟨by rfl, ?_⟩
            intro W hSw
            obtain ⟨q0, q1, q2, q3, q4, q5, q6, q7, q8, q9⟩ := hSw
            go_simp
            try with_reducible rfl
          try simp only [Act.put, List.setIfInBounds_toArray, List.set_cons_zero, List.set_cons_succ]
          refine wpAnyH_take (i := 10) (oi := ?oi_71) (v := ?_) ?hi_71 (by kernel_rfl) ?hf_71 (by kernel_rfl) ?hQ_71 ?hy_71 (by assumption) ?_
          case hi_71 => simp only [List.getElem?_toArray, List.getElem?_cons_zero, List.getElem?_cons_succ]; try rfl
          case hf_71 => kernel_rfl
          case hQ_71 => exact fun _ _ _ h => h
          case hy_71 =>
            refine Or.inl ⟨by rfl, ?_⟩
            intro W hSw
            obtain ⟨q0, q1, q2, q3, q4, q5, q6, q7, q8, q9⟩ := hSw
            go_simp
            try with_reducible rfl
          try simp only [Act.put, List.setIfInBounds_toArray, List.set_cons_zero, List.set_cons_succ]
          refine wpAnyH_take (i := 11) (oi := ?oi_72) (v := ?_) ?hi_72 (by kernel_rfl) ?hf_72 (by kernel_rfl) ?hQ_72 ?hy_72 (by assumption) ?_
          case hi_72 => simp only [List.getElem?_toArray, List.getElem?_cons_zero, List.getElem?_cons_succ]; try rfl
          case hf_72 => kernel_rfl
          case hQ_72 => exact fun _ _ _ h => h
          case hy_72 =>
            refine Or.inl ⟨by rfl, ?_⟩
            intro W hSw
            obtain ⟨q0, q1, q2, q3, q4, q5, q6, q7, q8, q9⟩ := hSw
            go_simp
            try with_reducible rfl
          try simp only [Act.put, List.setIfInBounds_toArray, List.set_cons_zero, List.set_cons_succ]
          refine wpAnyH_take (i := 12) (oi := ?oi_73) (v := ?_) ?hi_73 (by kernel_rfl) ?hf_73 (by kernel_rfl) ?hQ_73 ?hy_73 (by assumption) ?_
          case hi_73 => simp only [List.getElem?_toArray, List.getElem?_cons_zero, List.getElem?_cons_succ]; try rfl
          case hf_73 => kernel_rfl
          case hQ_73 => exact fun _ _ _ h => h
          case hy_73 =>
            refine Or.inl ⟨by rfl, ?_⟩
            intro W hSw
            obtain ⟨q0, q1, q2, q3, q4, q5, q6, q7, q8, q9⟩ := hSw
            go_simp
            try with_reducible rfl
          try simp only [Act.put, List.setIfInBounds_toArray, List.set_cons_zero, List.set_cons_succ]
          refine wpAnyH_take (i := 13) (oi := ?oi_74) (v := ?_) ?hi_74 (by kernel_rfl) ?hf_74 (by kernel_rfl) ?hQ_74 ?hy_74 (by assumption) ?_
          case hi_74 => simp only [List.getElem?_toArray, List.getElem?_cons_zero, List.getElem?_cons_succ]; try rfl
          case hf_74 => kernel_rfl
          case hQ_74 => exact fun _ _ _ h => h
          case hy_74 =>
            refine Or.inl ⟨by rfl, ?_⟩
            intro W hSw
            obtain ⟨q0, q1, q2, q3, q4, q5, q6, q7, q8, q9⟩ := hSw
            go_simp
            try with_reducible rfl
          try simp only [Act.put, List.setIfInBounds_toArray, List.set_cons_zero, List.set_cons_succ]
          refine wpAnyH_take (i := 14) (oi := ?oi_75) (v := ?_) ?hi_75 (by kernel_rfl) ?hf_75 (by kernel_rfl) ?hQ_75 ?hy_75 (by assumption) ?_
          case hi_75 => simp only [List.getElem?_toArray, List.getElem?_cons_zero, List.getElem?_cons_succ]; try rfl
          case hf_75 => kernel_rfl
          case hQ_75 => exact fun _ _ _ h => h
          case hy_75 =>
            refine Or.inl ⟨by rfl, ?_⟩
            intro W hSw
            obtain ⟨q0, q1, q2, q3, q4, q5, q6, q7, q8, q9⟩ := hSw
            go_simp
            try with_reducible rfl
          try simp only [Act.put, List.setIfInBounds_toArray, List.set_cons_zero, List.set_cons_succ]
          refine wpAnyH_take (i := 15) (oi := ?oi_76) (v := ?_) ?hi_76 (by kernel_rfl) ?hf_76 (by kernel_rfl) ?hQ_76 ?hy_76 (by assumption) ?_
          case hi_76 => simp only [List.getElem?_toArray, List.getElem?_cons_zero, List.getElem?_cons_succ]; try rfl
          case hf_76 => kernel_rfl
          case hQ_76 => exact fun _ _ _ h => h
          case hy_76 =>
            refine Or.inl ⟨by rfl, ?_⟩
            intro W hSw
            obtain ⟨q0, q1, q2, q3, q4, q5, q6, q7, q8, q9⟩ := hSw
            go_simp
            try with_reducible rfl
          try simp only [Act.put, List.setIfInBounds_toArray, List.set_cons_zero, List.set_cons_succ]
          refine wpAnyH_ready (rs := [16]) (by kernel_rfl) (by simp) ?_
          refine AllReadyH.cons (o := ?oi_77) ?hi_77 (fun K hK => ?_) AllReadyH.nil
          case hi_77 => simp only [List.getElem?_toArray, List.getElem?_cons_zero, List.getElem?_cons_succ]; try rfl
          go_simp
          (go_at_call 56
           (with_reducible refine (HBK.out _).mono ?_)
           rintro e v3 ⟨rfl, rfl⟩)
          refine hK.out _ _ hk2 (fun hHeld => ?_)
          clear hK K
          try simp only [Act.put, List.setIfInBounds_toArray, List.set_cons_zero, List.set_cons_succ]
          refine wpAnyH_take (i := 17) (oi := ?oi_78) (v := ?_) ?hi_78 (by kernel_rfl) ?hf_78 (by kernel_rfl) ?hQ_78 ?hy_78 (by assumption) ?_
          case hi_78 => simp only [List.getElem?_toArray, List.getElem?_cons_zero, List.getElem?_cons_succ]; try rfl
          case hf_78 => kernel_rfl
          case hQ_78 => exact fun _ _ _ h => h
          case hy_78 =>
            refine Or.inl ⟨by rfl, ?_⟩
            intro W hSw
            obtain ⟨q0, q1, q2, q3, q4, q5, q6, q7, q8, q9⟩ := hSw
            go_simp
            try with_reducible rfl
          try simp only [Act.put, List.setIfInBounds_toArray, List.set_cons_zero, List.set_cons_succ]
          refine wpAnyH_take (i := 18) (oi := ?oi_79) (v := ?_) ?hi_79 (by kernel_rfl) ?hf_79 (by kernel_rfl) ?hQ_79 ?hy_79 (by assumption) ?_
          case hi_79 => simp only [List.getElem?_toArray, List.getElem?_cons_zero, List.getElem?_cons_succ]; try rfl
          case hf_79 => kernel_rfl
          case hQ_79 => exact fun _ _ _ h => h
          case hy_79 =>
            refine Or.inl ⟨by rfl, ?_⟩
            intro W hSw
            obtain ⟨q0, q1, q2, q3, q4, q5, q6, q7, q8, q9⟩ := hSw
            go_simp
            try with_reducible rfl
          try simp only [Act.put, List.setIfInBounds_toArray, List.set_cons_zero, List.set_cons_succ]
          refine wpAnyH_take (i := 19) (oi := ?oi_80) (v := ?_) ?hi_80 (by kernel_rfl) ?hf_80 (by kernel_rfl) ?hQ_80 ?hy_80 (by assumption) ?_
          case hi_80 => simp only [List.getElem?_toArray, List.getElem?_cons_zero, List.getElem?_cons_succ]; try rfl
          case hf_80 => kernel_rfl
          case hQ_80 => exact fun _ _ _ h => h
          case hy_80 =>
            refine Or.inl ⟨by rfl, ?_⟩
            intro W hSw
            obtain ⟨q0, q1, q2, q3, q4, q5, q6, q7, q8, q9⟩ := hSw
            go_simp
            try with_reducible rfl
          try simp only [Act.put, List.setIfInBounds_toArray, List.set_cons_zero, List.set_cons_succ]
          refine wpAnyH_done (by kernel_rfl) ?_ _
          refine NoPanic.normal ?_
          clear hHeld
          have HVF := HV2
          have HVE := Lib.hid (HW1.out.trans (HVF.out.mono HW1.out.size))
          go_wp2_with (refine wpList_store61 rfl (.tmp 2) (.tmp 33) rfl b2 _ fi 1 nm At Ag nt ct ng cg rfl rfl (HZ.out _ HVE.out) (Lib.hid rfl) ?_)
          refine bodyPost_ret (v := .tuple #[.agg #[.int .i64 fi, .string nm, .int .i64 1, .slice At nt ct, .slice Ag ng cg], .bool true]) (res_cell results29 _ _ b2 61 _ _ rfl (setRow_heap _ b2 _ _ 61 (0, 0) (HZ.out _ HVE.out)) Tryz.underlying61 rfl (by kernel_rfl)) rfl ?_
          exact HQy.out (by rw [HOK.out]; simp) At ct Ag cg w1 _ HG.out HVF.out (HZ.out _ HVE.out) (by rw [HBX.out]; exact below_setRow (HB0.out.trans (HVE.out.mono HB0.out.size)) HB2.out _)
      · have hf2 : (fo == 1) = false := by simpa using hf1
        have HOK2 : Hid (ok = true) := Lib.hid (by rw [HOK.out]; simp [hf1])
        clear hf1
        refine wp_region_noPanic ?_
        refine wp_region_held_drew (S := (fun W => W.cell? ⟨bx, 0, none⟩ = some (.int .i64 cd) ∧ W.cell? ⟨bx, 1, none⟩ = some (.int .u64 a) ∧ W.cell? ⟨bx, 2, none⟩ = some (.int .u64 b) ∧ W.cell? ⟨bx, 3, none⟩ = some (.int .i64 al) ∧ W.cell? ⟨bx, 4, none⟩ = some (.slice A n c) ∧ W.cell? ⟨b4, 0, none⟩ = some (.int .i64 fi) ∧ W.cell? ⟨b4, 1, none⟩ = some (.string nm) ∧ W.cell? ⟨b4, 2, none⟩ = some (.int .i64 fo) ∧ W.cell? ⟨b4, 3, none⟩ = some (.slice At nt ct) ∧ W.cell? ⟨b4, 4, none⟩ = some (.slice Ag ng cg))) (by kernel_rfl) hks0 (fun hHeld => ?_)
        refine wpAnyH_take (i := 0) (oi := ?oi_81) (v := ?_) ?hi_81 (by kernel_rfl) ?hf_81 (by kernel_rfl) ?hQ_81 ?hy_81 (by assumption) ?_
        case hi_81 => simp only [List.getElem?_toArray, List.getElem?_cons_zero, List.getElem?_cons_succ]; try rfl
        case hf_81 => kernel_rfl
        case hQ_81 => exact fun _ _ _ h => h
        case hy_81 =>
          refine Or.inl ⟨by rfl, ?_⟩
          intro W hSw
          obtain ⟨q0, q1, q2, q3, q4, q5, q6, q7, q8, q9⟩ := hSw
          go_simp
          try with_reducible rfl
        try simp only [Act.put, List.setIfInBounds_toArray, List.set_cons_zero, List.set_cons_succ]
        refine wpAnyH_take (i := 1) (oi := ?oi_82) (v := ?_) ?hi_82 (by kernel_rfl) ?hf_82 (by kernel_rfl) ?hQ_82 ?hy_82 (by assumption) ?_
        case hi_82 => simp only [List.getElem?_toArray, List.getElem?_cons_zero, List.getElem?_cons_succ]; try rfl
        case hf_82 => kernel_rfl
        case hQ_82 => exact fun _ _ _ h => h
        case hy_82 =>
          refine Or.inl ⟨by rfl, ?_⟩
          intro W hSw
          obtain ⟨q0, q1, q2, q3, q4, q5, q6, q7, q8, q9⟩ := hSw
          go_simp
          try with_reducible rfl
        try simp only [Act.put, List.setIfInBounds_toArray, List.set_cons_zero, List.set_cons_succ]
        refine wpAnyH_take (i := 2) (oi := ?oi_83) (v := ?_) ?hi_83 (by kernel_rfl) ?hf_83 (by kernel_rfl) ?hQ_83 ?hy_83 (by assumption) ?_
        case hi_83 => simp only [List.getElem?_toArray, List.getElem?_cons_zero, List.getElem?_cons_succ]; try rfl
        case hf_83 => kernel_rfl
        case hQ_83 => exact fun _ _ _ h => h
        case hy_83 =>
          refine Or.inl ⟨by rfl, ?_⟩
          intro W hSw
          obtain ⟨q0, q1, q2, q3, q4, q5, q6, q7, q8, q9⟩ := hSw
          go_simp
          try with_reducible rfl
        try simp only [Act.put, List.setIfInBounds_toArray, List.set_cons_zero, List.set_cons_succ]
        refine wpAnyH_take (i := 3) (oi := ?oi_84) (v := ?_) ?hi_84 (by kernel_rfl) ?hf_84 (by kernel_rfl) ?hQ_84 ?hy_84 (by assumption) ?_
        case hi_84 => simp only [List.getElem?_toArray, List.getElem?_cons_zero, List.getElem?_cons_succ]; try rfl
        case hf_84 => kernel_rfl
        case hQ_84 => exact fun _ _ _ h => h
        case hy_84 =>
          refine Or.inl ⟨by rfl, ?_⟩
          intro W hSw
          obtain ⟨q0, q1, q2, q3, q4, q5, q6, q7, q8, q9⟩ := hSw
          go_simp
          try with_reducible rfl
        try simp only [Act.put, List.setIfInBounds_toArray, List.set_cons_zero, List.set_cons_succ]
        refine wpAnyH_take (i := 4) (oi := ?oi_85) (v := ?_) ?hi_85 (by kernel_rfl) ?hf_85 (by kernel_rfl) ?hQ_85 ?hy_85 (by assumption) ?_
        case hi_85 => simp only [List.getElem?_toArray, List.getElem?_cons_zero, List.getElem?_cons_succ]; try rfl
        case hf_85 => kernel_rfl
        case hQ_85 => exact fun _ _ _ h => h
        case hy_85 =>
          refine Or.inl ⟨by rfl, ?_⟩
          intro W hSw
          obtain ⟨q0, q1, q2, q3, q4, q5, q6, q7, q8, q9⟩ := hSw
          go_simp
          try with_reducible rfl
        try simp only [Act.put, List.setIfInBounds_toArray, List.set_cons_zero, List.set_cons_succ]
        refine wpAnyH_ready (rs := [5]) (by kernel_rfl) (by simp) ?_
        refine AllReadyH.cons (o := ?oi_86) ?hi_86 (fun K hK => ?_) AllReadyH.nil
        case hi_86 => simp only [List.getElem?_toArray, List.getElem?_cons_zero, List.getElem?_cons_succ]; try rfl
        go_simp
        (go_at_call 55
         (with_reducible refine (HBO.out _ HVD.out).mono ?_)
         rintro e v1 ⟨rfl, hb1⟩
         have HV1 := Lib.hid (HVD.out.trans (hb1.mono HVD.out.size))
         have HV51 := Lib.hid (HV5.out.trans (hb1.mono HV5.out.size))
         have hk1 := HKS.out _ HV1.out HV51.out
         clear hb1)
        refine hK.out _ _ hk1 (fun hHeld => ?_)
        clear hK K
        try simp only [Act.put, List.setIfInBounds_toArray, List.set_cons_zero, List.set_cons_succ]
        refine wpAnyH_ready (rs := [6]) (by kernel_rfl) (by simp) ?_
        refine AllReadyH.cons (o := ?oi_87) ?hi_87 (fun K hK => ?_) AllReadyH.nil
        case hi_87 => simp only [List.getElem?_toArray, List.getElem?_cons_zero, List.getElem?_cons_succ]; try rfl
        go_simp
        (go_at_call 54
         (with_reducible refine (HWI.out _ HV1.out).mono ?_)
         rintro e v2 ⟨rfl, hb2⟩
         have HV2 := Lib.hid (HV1.out.trans (hb2.mono HV1.out.size))
         have HV52 := Lib.hid (HV51.out.trans (hb2.mono HV51.out.size))
         have hk2 := HKS.out _ HV2.out HV52.out
         clear hb2)
        refine hK.out _ _ hk2 (fun hHeld => ?_)
        clear hK K
        try simp only [Act.put, List.setIfInBounds_toArray, List.set_cons_zero, List.set_cons_succ]
        refine wpAnyH_take (i := 7) (oi := ?oi_88) (v := ?_) ?hi_88 (by kernel_rfl) ?hf_88 (by kernel_rfl) ?hQ_88 ?hy_88 (by assumption) ?_
        case hi_88 => simp only [List.getElem?_toArray, List.getElem?_cons_zero, List.getElem?_cons_succ]; try rfl
        case hf_88 => kernel_rfl
        case hQ_88 => exact fun _ _ _ h => h
        case hy_88 =>
          refine Or.inl ⟨by rfl, ?_⟩
          intro W hSw
          obtain ⟨q0, q1, q2, q3, q4, q5, q6, q7, q8, q9⟩ := hSw
          go_simp
          try with_reducible rfl
        try simp only [Act.put, List.setIfInBounds_toArray, List.set_cons_zero, List.set_cons_succ]
        refine wpAnyH_take (i := 8) (oi := ?oi_89) (v := ?_) ?hi_89 (by kernel_rfl) ?hf_89 (by kernel_rfl) ?hQ_89 ?hy_89 (by assumption) ?_
        case hi_89 => simp only [List.getElem?_toArray, List.getElem?_cons_zero, List.getElem?_cons_succ]; try rfl
        case hf_89 => kernel_rfl
        case hQ_89 => exact fun _ _ _ h => h
        case hy_89 =>
          refine Or.inl ⟨by rfl, ?_⟩
          intro W hSw
          obtain ⟨q0, q1, q2, q3, q4, q5, q6, q7, q8, q9⟩ := hSw
          go_simp
          try with_reducible rfl
        try simp only [Act.put, List.setIfInBounds_toArray, List.set_cons_zero, List.set_cons_succ]
        refine wpAnyH_take (i := 9) (oi := ?oi_90) (v := ?_) ?hi_90 (by kernel_rfl) ?hf_90 (by kernel_rfl) ?hQ_90 ?hy_90 (by assumption) ?_
        case hi_90 => simp only [List.getElem?_toArray, List.getElem?_cons_zero, List.getElem?_cons_succ]; try rfl
        case hf_90 => kernel_rfl
        case hQ_90 => exact fun _ _ _ h => h
        case hy_90 =>
          refine Or.inl ⟨by rfl, ?_⟩
          intro W hSw
          obtain ⟨q0, q1, q2, q3, q4, q5, q6, q7, q8, q9⟩ := hSw
          go_simp
          try with_reducible rfl
        try simp only [Act.put, List.setIfInBounds_toArray, List.set_cons_zero, List.set_cons_succ]
        refine wpAnyH_take (i := 10) (oi := ?oi_91) (v := ?_) ?hi_91 (by kernel_rfl) ?hf_91 (by kernel_rfl) ?hQ_91 ?hy_91 (by assumption) ?_
        case hi_91 => simp only [List.getElem?_toArray, List.getElem?_cons_zero, List.getElem?_cons_succ]; try rfl
        case hf_91 => kernel_rfl
        case hQ_91 => exact fun _ _ _ h => h
        case hy_91 =>
          refine Or.inl ⟨by rfl, ?_⟩
          intro W hSw
          obtain ⟨q0, q1, q2, q3, q4, q5, q6, q7, q8, q9⟩ := hSw
          go_simp
          try with_reducible rfl
        try simp only [Act.put, List.setIfInBounds_toArray, List.set_cons_zero, List.set_cons_succ]
        refine wpAnyH_take (i := 11) (oi := ?oi_92) (v := ?_) ?hi_92 (by kernel_rfl) ?hf_92 (by kernel_rfl) ?hQ_92 ?hy_92 (by assumption) ?_
        case hi_92 => simp only [List.getElem?_toArray, List.getElem?_cons_zero, List.getElem?_cons_succ]; try rfl
        case hf_92 => kernel_rfl
        case hQ_92 => exact fun _ _ _ h => h
        case hy_92 =>
          refine Or.inl ⟨by rfl, ?_⟩
          intro W hSw
          obtain ⟨q0, q1, q2, q3, q4, q5, q6, q7, q8, q9⟩ := hSw
          go_simp
          try with_reducible rfl
        try simp only [Act.put, List.setIfInBounds_toArray, List.set_cons_zero, List.set_cons_succ]
        refine wpAnyH_take (i := 12) (oi := ?oi_93) (v := ?_) ?hi_93 (by kernel_rfl) ?hf_93 (by kernel_rfl) ?hQ_93 ?hy_93 (by assumption) ?_
        case hi_93 => simp only [List.getElem?_toArray, List.getElem?_cons_zero, List.getElem?_cons_succ]; try rfl
        case hf_93 => kernel_rfl
        case hQ_93 => exact fun _ _ _ h => h
        case hy_93 =>
          refine Or.inl ⟨by rfl, ?_⟩
          intro W hSw
          obtain ⟨q0, q1, q2, q3, q4, q5, q6, q7, q8, q9⟩ := hSw
          go_simp
          try with_reducible rfl
        try simp only [Act.put, List.setIfInBounds_toArray, List.set_cons_zero, List.set_cons_succ]
        refine wpAnyH_take (i := 13) (oi := ?oi_94) (v := ?_) ?hi_94 (by kernel_rfl) ?hf_94 (by kernel_rfl) ?hQ_94 ?hy_94 (by assumption) ?_
        case hi_94 => simp only [List.getElem?_toArray, List.getElem?_cons_zero, List.getElem?_cons_succ]; try rfl
        case hf_94 => kernel_rfl
        case hQ_94 => exact fun _ _ _ h => h
        case hy_94 =>
          refine Or.inl ⟨by rfl, ?_⟩
          intro W hSw
          obtain ⟨q0, q1, q2, q3, q4, q5, q6, q7, q8, q9⟩ := hSw
          go_simp
          try with_reducible rfl
        try simp only [Act.put, List.setIfInBounds_toArray, List.set_cons_zero, List.set_cons_succ]
        refine wpAnyH_take (i := 14) (oi := ?oi_95) (v := undef) ?hi_95 (by kernel_rfl) ?hf_95 (by kernel_rfl) ?hQ_95 ?hy_95 (by assumption) ?_
        case hi_95 => simp only [List.getElem?_toArray, List.getElem?_cons_zero, List.getElem?_cons_succ]; try rfl
        case hf_95 => kernel_rfl
        case hQ_95 => exact fun _ _ _ h => h
        case hy_95 => exact Or.inr ⟨by rfl, rfl⟩
        try simp only [Act.put, List.setIfInBounds_toArray, List.set_cons_zero, List.set_cons_succ]
        refine wpAnyH_take (i := 15) (oi := ?oi_96) (v := undef) ?hi_96 (by kernel_rfl) ?hf_96 (by kernel_rfl) ?hQ_96 ?hy_96 (by assumption) ?_
        case hi_96 => simp only [List.getElem?_toArray, List.getElem?_cons_zero, List.getElem?_cons_succ]; try rfl
        case hf_96 => kernel_rfl
        case hQ_96 => exact fun _ _ _ h => h
        case hy_96 => exact Or.inr ⟨by rfl, rfl⟩
        try simp only [Act.put, List.setIfInBounds_toArray, List.set_cons_zero, List.set_cons_succ]
        refine wpAnyH_take (i := 16) (oi := ?oi_97) (v := undef) ?hi_97 (by kernel_rfl) ?hf_97 (by kernel_rfl) ?hQ_97 ?hy_97 (by assumption) ?_
        case hi_97 => simp only [List.getElem?_toArray, List.getElem?_cons_zero, List.getElem?_cons_succ]; try rfl
        case hf_97 => kernel_rfl
        case hQ_97 => exact fun _ _ _ h => h
        case hy_97 => exact Or.inr ⟨by rfl, rfl⟩
        try simp only [Act.put, List.setIfInBounds_toArray, List.set_cons_zero, List.set_cons_succ]
        refine wpAnyH_take (i := 17) (oi := ?oi_98) (v := undef) ?hi_98 (by kernel_rfl) ?hf_98 (by kernel_rfl) ?hQ_98 ?hy_98 (by assumption) ?_
        case hi_98 => simp only [List.getElem?_toArray, List.getElem?_cons_zero, List.getElem?_cons_succ]; try rfl
        case hf_98 => kernel_rfl
        case hQ_98 => exact fun _ _ _ h => h
        case hy_98 => exact Or.inr ⟨by rfl, rfl⟩
        try simp only [Act.put, List.setIfInBounds_toArray, List.set_cons_zero, List.set_cons_succ]
        refine wpAnyH_take (i := 18) (oi := ?oi_99) (v := ?_) ?hi_99 (by kernel_rfl) ?hf_99 (by kernel_rfl) ?hQ_99 ?hy_99 (by assumption) ?_
        case hi_99 => simp only [List.getElem?_toArray, List.getElem?_cons_zero, List.getElem?_cons_succ]; try rfl
        case hf_99 => kernel_rfl
        case hQ_99 => exact fun _ _ _ h => h
        case hy_99 =>
          refine Or.inl ⟨by rfl, ?_⟩
          intro W hSw
          obtain ⟨q0, q1, q2, q3, q4, q5, q6, q7, q8, q9⟩ := hSw
          go_simp
          try with_reducible rfl
        try simp only [Act.put, List.setIfInBounds_toArray, List.set_cons_zero, List.set_cons_succ]
        refine wpAnyH_take (i := 19) (oi := ?oi_100) (v := ?_) ?hi_100 (by kernel_rfl) ?hf_100 (by kernel_rfl) ?hQ_100 ?hy_100 (by assumption) ?_
        case hi_100 => simp only [List.getElem?_toArray, List.getElem?_cons_zero, List.getElem?_cons_succ]; try rfl
        case hf_100 => kernel_rfl
        case hQ_100 => exact fun _ _ _ h => h
        case hy_100 =>
          refine Or.inl ⟨by rfl, ?_⟩
          intro W hSw
          obtain ⟨q0, q1, q2, q3, q4, q5, q6, q7, q8, q9⟩ := hSw
          go_simp
          try with_reducible rfl
        try simp only [Act.put, List.setIfInBounds_toArray, List.set_cons_zero, List.set_cons_succ]
        refine wpAnyH_done (by kernel_rfl) ?_ _
        refine NoPanic.normal ?_
        clear hHeld
        have HVF := HV2
        have HVE := Lib.hid (HW1.out.trans (HVF.out.mono HW1.out.size))
        go_wp2_with (refine wpList_store61 rfl (.tmp 2) (.tmp 33) rfl b2 _ fi fo nm At Ag nt ct ng cg rfl rfl (HZ.out _ HVE.out) (Lib.hid rfl) ?_)
        refine bodyPost_ret (v := .tuple #[.agg #[.int .i64 fi, .string nm, .int .i64 fo, .slice At nt ct, .slice Ag ng cg], .bool true]) (res_cell results29 _ _ b2 61 _ _ rfl (setRow_heap _ b2 _ _ 61 (0, 0) (HZ.out _ HVE.out)) Tryz.underlying61 rfl (by kernel_rfl)) rfl ?_
        exact HQy.out HOK2.out At ct Ag cg w1 _ HG.out HVF.out (HZ.out _ HVE.out) (by rw [HBX.out]; exact below_setRow (HB0.out.trans (HVE.out.mono HB0.out.size)) HB2.out _)
end Go.Proofs.YtggfaalodojjkaaGreatDoor
namespace Go.Proofs.YtggfaalodojjkaaGreatDoor
open Go.RowKit
set_option linter.unusedVariables false
set_option linter.unusedSimpArgs false
theorem rw_of {code : Int} {k : Nat} {r : Rw} (h : RowOf code k r) : r ∈ RW := List.mem_of_getElem? h.1
theorem row_first {code : Int} {k : Nat} {r : Rw} (h : RowOf code k r) : (r.first : Int) + ((code - r.first).toNat : Int) = code := by have := h.2.1; omega
theorem own_far {base E size g : Nat} {w : World} {v : Value} {n t : Nat} {xs : List Value} {cs cs' : Array Value} (h : w.ownsRow base E size v n xs) (hg : Blk w g t cs) (ht : t ≠ E) : (w.setRow g cs').ownsRow base E size v n xs :=
  own_fr h (fr_setRow w g cs') (fun k hk e => by
    obtain ⟨cu, hcu⟩ := own_ty h hk
    exact hcu.ne_ hg (fun e2 => ht e2.symm) e)
theorem InfAt.far {w : World} {B g t : Nat} {r : Rw} {i : Nat} {At Ag : Option Addr} {ct cg : Nat} {cs cs' : Array Value} (h : InfAt w B r i At ct Ag cg) (hg : Blk w g t cs) (ht : t ≠ 113) : InfAt (w.setRow g cs') B r i At ct Ag cg := ⟨own_far h.1 hg ht, own_far h.2 hg ht⟩
theorem InfAt.below {w w' : World} {B : Nat} {r : Rw} {i : Nat} {At Ag : Option Addr} {ct cg : Nat} (h : InfAt w B r i At ct Ag cg) (hb : Below w.heap.size w w') : InfAt w' B r i At ct Ag cg := ⟨own_kept h.1 hb, own_kept h.2 hb⟩
theorem InfAt.less {w : World} {B B' : Nat} {r : Rw} {i : Nat} {At Ag : Option Addr} {ct cg : Nat} (h : InfAt w B r i At ct Ag cg) (hB : B' ≤ B) : InfAt w B' r i At ct Ag cg := ⟨own_base h.1 hB, own_base h.2 hB⟩
theorem InfAt.len {w : World} {B : Nat} {r : Rw} {i : Nat} {At Ag : Option Addr} {ct cg : Nat} (h : InfAt w B r i At ct Ag cg) : r.takes.length ≤ ct ∧ ct ≤ 9223372036854775807 ∧ r.gives.length ≤ cg ∧ cg ≤ 9223372036854775807 := by
  obtain ⟨A1, c1, e1, t1, t2, t3⟩ := byt_own113 h.1 rfl
  obtain ⟨A2, c2, e2, g1, g2, g3⟩ := byt_own113 h.2 rfl
  cases e1
  cases e2
  unfold maxLen at t2 g2
  exact ⟨t1, t2, g1, g2⟩
set_option maxHeartbeats 4000000 in
set_option maxRecDepth 100000 in
theorem op_ok (x : In) (A : Option Addr) (c : Nat) (w : World) (hT : Tb w) (hcd : (Lit.int .i64 x.cd).wf = true) (hl : Sl w A x.l.length c x.l) (hn : x.l.length ≤ 200000) :
    Calls Tryz.prog 29 #[.agg (I5 x (.slice A x.l.length c)).toArray] w (OpPost x w) := by
  obtain ⟨cd, a, b, al, l⟩ := x
  unfold I5
  dsimp only at hl hn hcd ⊢
  have c1 := hl.2.1
  have c2 := hl.2.2.1
  unfold maxLen at c2
  have hsz := hT.size
  have HBK := Lib.hid (fun V => blockType_ok a V)
  rcases Classical.em (∃ k r, RowOf cd k r ∧ (cd - r.first).toNat < (Lib.fields r.names).length) with ⟨k, r, hk, hi⟩ | hno
  · have hmem := rw_of hk
    have hfi := row_first hk
    refine op29_walk cd a b al A c l.length c1 c2 w _ (fun At ct Ag cg W => InfAt W w.heap.size r (cd - r.first).toNat At ct Ag cg) ((r.first : Int) + ((cd - r.first).toNat : Int)) (r.form : Nat) (nmS r (cd - r.first).toNat) r.takes.length r.gives.length true (wiB ⟨cd, a, b, al, l⟩ (bnR r)) (bkB a) (riB ⟨cd, a, b, al, l⟩ r) (bnR r).a (bnR r).b (bnR r).al (bnR r).lb ?_ (Lib.hid fun W hW => ?_) (Lib.hid fun _ At ct Ag cg w1 hG V hV => ?_) (Lib.hid fun _ V hV => ?_) HBK (Lib.hid fun hok V hV => ?_) (Lib.hid fun hok At ct Ag cg w1 V hG hV hz hB => ?_)
    · unfold riB
      rw [Bool.true_and]
      have : decide (((r.form : Nat) : Int) = 1) = decide (r.form = 1) := by simp; omega
      rw [this]
    · refine (Find_any cd hcd W (hT.below hW hsz)).mono ?_
      intro e w' h
      rcases h with ⟨h1, _⟩ | ⟨k', r', hk', h⟩
      · have := hk.2.1; omega
      · obtain ⟨rfl, rfl⟩ := RowOf.uniq hk hk'
        rcases h with ⟨h1, _⟩ | ⟨_, At, ct, Ag, cg, rfl, h1, h2, h3⟩
        · omega
        · have hI : InfAt w' w.heap.size r (cd - r.first).toNat At ct Ag cg := InfAt.less ⟨h1, h2⟩ hW.size
          obtain ⟨q1, q2, q3, q4⟩ := hI.len
          exact ⟨At, ct, Ag, cg, q1, q2, q3, q4, rfl, h3, hI⟩
    · exact boundR_ok r hmem _ w.heap.size At ct Ag cg V (hG.below hV)
    · exact within_ok cd a b al A c l _ _ _ _ hn V (hl.below hV)
    · refine ⟨hV, .inl ⟨rfl, fun r' hr' => ?_⟩⟩
      obtain ⟨k', hk', _, hr⟩ := hr'
      obtain ⟨rfl, rfl⟩ := RowOf.uniq hk hk'
      rw [hok] at hr
      cases hr
    · refine ⟨hB, .inr ⟨r, At, ct, Ag, cg, ⟨k, hk, hi, hok⟩, rfl, ?_⟩⟩
      exact (hG.below hV).far hz (by decide)
  · refine op29_walk cd a b al A c l.length c1 c2 w _ (fun _ _ _ _ _ => True) 0 0 ⟨#[]⟩ 0 0 false false (bkB a) false 0 0 0 0 rfl (Lib.hid fun W hW => ?_) (Lib.hid fun h => absurd h (by decide)) (Lib.hid fun h => absurd h (by decide)) HBK (Lib.hid fun hok V hV => ?_) (Lib.hid fun h => absurd h (by decide))
    · refine (Find_any cd hcd W (hT.below hW hsz)).mono ?_
      intro e w' h
      have key : NoPost W e w' := by
        rcases h with ⟨_, h1⟩ | ⟨k', r', hk', h⟩
        · exact h1
        · rcases h with ⟨_, h1⟩ | ⟨h1, _⟩
          · exact h1
          · exact absurd ⟨k', r', hk', h1⟩ hno
      obtain ⟨rfl, hb⟩ := key
      exact ⟨none, 0, none, 0, Nat.le_refl _, by decide, Nat.le_refl _, by decide, rfl, hb, trivial⟩
    · refine ⟨hV, .inl ⟨rfl, fun r' hr' => ?_⟩⟩
      obtain ⟨k', hk', h1, _⟩ := hr'
      exact hno ⟨k', r', hk', h1⟩
end Go.Proofs.YtggfaalodojjkaaGreatDoor
namespace Go.Proofs.YtggfaalodojjkaaGreatDoor
open Go.RowKit
set_option linter.unusedVariables false
set_option linter.unusedSimpArgs false
theorem Sl_new (w : World) (L : List Int) (hL : L.length ≤ 1000) : Sl (w.alloc (.cells (L.map U64).toArray 22)) (some ⟨w.heap.size, 0, none⟩) L.length L.length L := by
  refine ⟨rfl, Nat.le_refl _, by unfold maxLen; omega, fun _ => ⟨w.heap.size, 0, rfl, by simp, fun i hi => ?_⟩⟩
  rw [Nat.zero_add, (Blk.new w 22 _).cell i]
  simp [List.getD_eq_getElem?_getD, List.getElem?_eq_getElem hi]
def NuP (L : List Int) (w : World) (e : Ending) (w' : World) : Prop := ∃ A n c, e = .returned (.slice A n c) ∧ Sl w' A n c L ∧ Below w.heap.size w w'
theorem NuP.new (w : World) (o : Obj) (L : List Int) (hL : L.length ≤ 1000) : NuP L w (.returned (.slice (some ⟨w.heap.size + 1, 0, none⟩) L.length L.length)) ((w.alloc o).alloc (.cells (L.map U64).toArray 22)) := by
  have h := Sl_new (w.alloc o) L hL
  rw [World.size_alloc] at h
  exact ⟨_, _, _, rfl, h, ((Below.refl _ _).alloc (Nat.le_refl _) o).alloc (by simp) _⟩
set_option maxHeartbeats 4000000 in
set_option maxRecDepth 100000 in
theorem numbers_0 (cd a b al : Int) (A : Option Addr) (n c : Nat) (w : World)  : Calls Tryz.prog 34 #[.agg #[.int .i64 cd, .int .u64 a, .int .u64 b, .int .i64 al, .slice A n c], .int .i64 0] w (NuP [] w) := by
  have HB := Lib.hid ((Below.refl w.heap.size w).alloc (Nat.le_refl _) (.cells #[.int .i64 cd, .int .u64 a, .int .u64 b, .int .i64 al, .slice A n c] 30))
  go_enter Tryz.func34, Tryz.ntmps34
  go_wp2
  go_ret
  exact ⟨none, 0, 0, rfl, ⟨rfl, Nat.le_refl _, Nat.zero_le _, fun h => absurd h (by omega)⟩, HB.out⟩
set_option maxHeartbeats 4000000 in
set_option maxRecDepth 100000 in
theorem numbers_5 (cd a b al : Int) (A : Option Addr) (n c : Nat) (w : World)  : Calls Tryz.prog 34 #[.agg #[.int .i64 cd, .int .u64 a, .int .u64 b, .int .i64 al, .slice A n c], .int .i64 5] w (NuP [a, b] w) := by
  have HB := Lib.hid ((Below.refl w.heap.size w).alloc (Nat.le_refl _) (.cells #[.int .i64 cd, .int .u64 a, .int .u64 b, .int .i64 al, .slice A n c] 30))
  go_enter Tryz.func34, Tryz.ntmps34
  go_wp2
  go_ret
  exact NuP.new w (.cells #[.int .i64 cd, .int .u64 a, .int .u64 b, .int .i64 al, .slice A n c] 30) [a, b] (by simp)
set_option maxHeartbeats 4000000 in
set_option maxRecDepth 100000 in
theorem numbers_10 (cd a b al : Int) (A : Option Addr) (n c : Nat) (w : World)  : Calls Tryz.prog 34 #[.agg #[.int .i64 cd, .int .u64 a, .int .u64 b, .int .i64 al, .slice A n c], .int .i64 10] w (NuP [a, b] w) := by
  have HB := Lib.hid ((Below.refl w.heap.size w).alloc (Nat.le_refl _) (.cells #[.int .i64 cd, .int .u64 a, .int .u64 b, .int .i64 al, .slice A n c] 30))
  go_enter Tryz.func34, Tryz.ntmps34
  go_wp2
  go_ret
  exact NuP.new w (.cells #[.int .i64 cd, .int .u64 a, .int .u64 b, .int .i64 al, .slice A n c] 30) [a, b] (by simp)
set_option maxHeartbeats 4000000 in
set_option maxRecDepth 100000 in
theorem numbers_8z (cd a b al : Int) (A : Option Addr) (n c : Nat) (w : World) (h0 : a = 0) (h1 : 0 ≤ al) (h2 : al ≤ 31) : Calls Tryz.prog 34 #[.agg #[.int .i64 cd, .int .u64 a, .int .u64 b, .int .i64 al, .slice A n c], .int .i64 8] w (NuP [al, b] w) := by
  have HB := Lib.hid ((Below.refl w.heap.size w).alloc (Nat.le_refl _) (.cells #[.int .i64 cd, .int .u64 a, .int .u64 b, .int .i64 al, .slice A n c] 30))
  subst h0
  go_enter Tryz.func34, Tryz.ntmps34
  go_wp2
  go_ret
  exact NuP.new w (.cells #[.int .i64 cd, .int .u64 0, .int .u64 b, .int .i64 al, .slice A n c] 30) [al, b] (by simp)
set_option maxHeartbeats 4000000 in
set_option maxRecDepth 100000 in
theorem numbers_8 (cd a b al : Int) (A : Option Addr) (n c : Nat) (w : World) (h0 : a ≠ 0) (h1 : 0 ≤ al) (h2 : al ≤ 31) : Calls Tryz.prog 34 #[.agg #[.int .i64 cd, .int .u64 a, .int .u64 b, .int .i64 al, .slice A n c], .int .i64 8] w (NuP [64 + al, a, b] w) := by
  have HB := Lib.hid ((Below.refl w.heap.size w).alloc (Nat.le_refl _) (.cells #[.int .i64 cd, .int .u64 a, .int .u64 b, .int .i64 al, .slice A n c] 30))
  have e0 : (a == 0) = false := by simpa using h0
  clear h0
  go_enter Tryz.func34, Tryz.ntmps34
  go_wp2
  go_ret
  exact NuP.new w (.cells #[.int .i64 cd, .int .u64 a, .int .u64 b, .int .i64 al, .slice A n c] 30) [64 + al, a, b] (by simp)
set_option maxHeartbeats 4000000 in
set_option maxRecDepth 100000 in
theorem numbers_x (cd a b al : Int) (A : Option Addr) (n c : Nat) (f : Int) (w : World) (h0 : f ≠ 0) (h3 : f ≠ 3) (h5 : f ≠ 5) (h10 : f ≠ 10) (h8 : f ≠ 8) : Calls Tryz.prog 34 #[.agg #[.int .i64 cd, .int .u64 a, .int .u64 b, .int .i64 al, .slice A n c], .int .i64 f] w (NuP [a] w) := by
  have HB := Lib.hid ((Below.refl w.heap.size w).alloc (Nat.le_refl _) (.cells #[.int .i64 cd, .int .u64 a, .int .u64 b, .int .i64 al, .slice A n c] 30))
  have e0 : (f == 0) = false := by simpa using h0
  have e3 : (f == 3) = false := by simpa using h3
  have e5 : (f == 5) = false := by simpa using h5
  have e10 : (f == 10) = false := by simpa using h10
  have e8 : (f == 8) = false := by simpa using h8
  clear h0 h3 h5 h10 h8
  go_enter Tryz.func34, Tryz.ntmps34
  go_wp2
  go_ret
  exact NuP.new w (.cells #[.int .i64 cd, .int .u64 a, .int .u64 b, .int .i64 al, .slice A n c] 30) [a] (by simp)
def headL (cd : Int) : List Nat := if cd < 64512 then [(cd % 256).toNat] else 252 :: Leb.enc (Leb.szU (cd - 64512).toNat) (cd - 64512).toNat
theorem enc_len : ∀ (k : Nat) (n : Int), (Leb.enc k n).length = k + 1
  | 0, n => rfl
  | k + 1, n => by unfold Leb.enc; simp [enc_len k]
def HdP (L : List Nat) (w : World) (e : Ending) (w' : World) : Prop := ∃ A n c, e = .returned (.slice A n c) ∧ Byt w' A n c L ∧ Below w.heap.size w w' ∧ n = L.length
theorem byt_new1 (w : World) (x : Nat) (hx : x < 256) : Byt (w.alloc (.cells #[.int .u8 (x : Nat)] 5)) (some ⟨w.heap.size, 0, none⟩) 1 1 [x] := by
  refine ⟨rfl, by simpa using hx, Nat.le_refl _, by decide, fun _ => ⟨w.heap.size, 0, rfl, by simp, fun i hi => ?_⟩⟩
  obtain rfl : i = 0 := by omega
  exact (Blk.new w 5 _).cell 0
set_option maxHeartbeats 4000000 in
set_option maxRecDepth 100000 in
theorem head_ok (cd : Int) (h0 : 0 ≤ cd) (h1 : cd < 100000) (w : World) : Calls Tryz.prog 30 #[.int .i64 cd] w (HdP (headL cd) w) := by
  unfold headL
  by_cases h : cd < 64512
  · rw [if_pos h]
    go_enter Tryz.func30, Tryz.ntmps30
    go_wp2
    go_ret
    refine ⟨_, _, _, rfl, ?_, (Below.refl _ _).alloc (Nat.le_refl _) _, rfl⟩
    have := byt_new1 w (cd % 256).toNat (by omega)
    rw [show (((cd % 256).toNat : Nat) : Int) = cd % 256 from by omega] at this
    exact this
  · rw [if_neg h]
    obtain ⟨m, rfl⟩ : ∃ m : Nat, cd = (m : Int) + 64512 := ⟨(cd - 64512).toNat, by omega⟩
    have hB : Below w.heap.size w (w.alloc (.cells #[.int .u8 252] 5)) := (Below.refl _ _).alloc (Nat.le_refl _) _
    have hY0 : Byt (w.alloc (.cells #[.int .u8 252] 5)) (some ⟨w.heap.size, 0, none⟩) 1 1 [252] := byt_new1 w 252 (by decide)
    have HP := Lib.hid (Put_any (some ⟨w.heap.size, 0, none⟩) 1 1 [252] m (w.alloc (.cells #[.int .u8 252] 5)) hY0 (by decide) (by omega))
    have HB := Lib.hid hB
    rw [Int.add_sub_cancel, Int.toNat_natCast]
    have HL : Hid ((Leb.enc (Leb.szU m) m).length = Leb.szU m + 1) := Lib.hid (enc_len _ _)
    have hsub : (m : Int) + 64512 - 64512 = (m : Int) := by omega
    clear hB hY0
    go_enter Tryz.func30, Tryz.ntmps30
    go_wp2_with fail
    with_reducible refine HP.out.mono ?_
    rintro e w1 ⟨g, cp, rfl, hby, hb⟩
    have HY := Lib.hid hby
    have HB1 := Lib.hid (HB.out.trans (hb.mono HB.out.size))
    clear hby hb
    go_wp2
    go_ret
    exact ⟨_, _, _, rfl, HY.out, HB1.out, by simp [HL.out]; omega⟩
end Go.Proofs.YtggfaalodojjkaaGreatDoor
namespace Go.Proofs.YtggfaalodojjkaaGreatDoor
open Go.RowKit
set_option linter.unusedVariables false
set_option linter.unusedSimpArgs false
theorem addr_at (b j : Nat) : (⟨b, 0, none⟩ : Addr).add j = ⟨b, j, none⟩ := by cases j <;> simp [Addr.add]
/-- a row of strings, then another one -/
theorem app_str (w : World) (B B2 n m : Nat) (v x : Value) (xs ys : List (List UInt8)) (h1 : w.ownsRow B 9 1 v n (xs.map Sv)) (h2 : w.ownsRow B2 9 1 x m (ys.map Sv)) (hnm : n + m ≤ 200000) (hB : B ≤ w.heap.size) :
    ∃ v' w', Hid (∀ ty, (Builtin.append_ #[73, 73] ty #[v, x]).run Tryz.prog w = .ok v' w') ∧ w'.ownsRow B 9 1 v' (n + m) ((xs ++ ys).map Sv) ∧ w.grownBy w' v.ownBlock := by
  obtain ⟨i0, hi, hz0, hz1, hz2⟩ := info_parts info9
  rcases h2.2 with ⟨rfl, rfl⟩ | ⟨g, cap, cur, e, _, hg, hc, hm, _, _⟩
  · have hy : ys = [] := by have := h2.1; simp at this; exact this
    subst hy
    exact ⟨v, w, Lib.hid (fun ty => run_append_owned_none w B 73 ty 9 i0 1 Tryz.underlying73 hi v n _ h1), by simpa using h1, World.grownBy.refl _ _⟩
  · subst e
    have hr : ∀ ty, ∃ v' w', (Builtin.append_ #[73, 73] ty #[v, .slice (some ⟨g, 0, none⟩) m cap]).run Tryz.prog w = .ok v' w' ∧ w'.ownsRow B 9 1 v' (n + m) (xs.map Sv ++ ys.map Sv) ∧ w.grownBy w' v.ownBlock := fun ty => by
      obtain ⟨v', w', q1, q2, q3, _⟩ := run_append_own_at (P := Tryz.prog) w B 73 ty 9 i0 _ 1 16 Tryz.underlying73 hi hz0 hz1 hz2 rfl (by decide) v n _ h1 ⟨g, 0, none⟩ m cap (ys.map Sv) (by simpa using h2.1) (fun j u hu => by
        exact h2.cells (g := g) rfl j u hu) (fun u hu => by
        rw [List.mem_map] at hu
        obtain ⟨_, _, rfl⟩ := hu
        rfl) (by unfold maxLen; omega) (by omega) (by omega)
      exact ⟨v', w', q1, q2, q3⟩
    obtain ⟨v', w', q1, q2, q3⟩ := hr 0
    refine ⟨v', w', Lib.hid (fun ty => ?_), by rw [List.map_append]; exact q2, q3⟩
    rw [← q1]; rfl
/-- what words answers -/
def WdP (L : List (List UInt8)) (w : World) (e : Ending) (w' : World) : Prop :=
  ∃ v, e = .returned v ∧ w'.ownsRow w.heap.size 9 1 v L.length (L.map Sv) ∧ Below w.heap.size w w'
theorem WdP.of {L : List Int} {w W : World} (hb : Below w.heap.size w W) {e : Ending} {w' : World} (h : TnP L W e w') : WdP (L.map tn) w e w' := by
  obtain ⟨v, rfl, h1, h2⟩ := h
  refine ⟨v, rfl, ?_, hb.trans (h2.mono hb.size)⟩
  rw [List.map_map, List.length_map]
  exact own_base h1 hb.size
set_option maxHeartbeats 4000000 in
set_option maxRecDepth 100000 in
theorem words_0 (cd a b al : Int) (A : Option Addr) (n c : Nat) (fi : Int) (nm : ByteArray) (At Ag : Option Addr) (nt ct ng cg : Nat) (w : World) :
    Calls Tryz.prog 39 #[.agg #[.int .i64 cd, .int .u64 a, .int .u64 b, .int .i64 al, .slice A n c], .agg #[.int .i64 fi, .string nm, .int .i64 0, .slice At nt ct, .slice Ag ng cg]] w (WdP [] w) := by
  have HB := Lib.hid (((Below.refl w.heap.size w).alloc (Nat.le_refl _) (.cells #[.int .i64 cd, .int .u64 a, .int .u64 b, .int .i64 al, .slice A n c] 30)).alloc (by simp) (.cells #[.int .i64 fi, .string nm, .int .i64 0, .slice At nt ct, .slice Ag ng cg] 61))
  go_enter Tryz.func39, Tryz.ntmps39
  go_wp2
  go_ret
  exact ⟨_, rfl, World.ownsRow_nil _ _ _ _, HB.out⟩
set_option maxHeartbeats 4000000 in
set_option maxRecDepth 100000 in
theorem words_5 (cd a b al : Int) (A : Option Addr) (n c : Nat) (fi  : Int) (nm : ByteArray) (At Ag : Option Addr) (nt ct ng cg : Nat) (w : World) (hL : Lw w) (ha : 0 ≤ a ∧ a < 18446744073709551616) (hb0 : 0 ≤ b ∧ b < 18446744073709551616) :
    Calls Tryz.prog 39 #[.agg #[.int .i64 cd, .int .u64 a, .int .u64 b, .int .i64 al, .slice A n c], .agg #[.int .i64 fi, .string nm, .int .i64 5, .slice At nt ct, .slice Ag ng cg]] w (WdP ([a, b].map tn) w) := by
  obtain ⟨W0, hW0⟩ : ∃ V, V = (w.alloc (.cells #[.int .i64 cd, .int .u64 a, .int .u64 b, .int .i64 al, .slice A n c] 30)).alloc (.cells #[.int .i64 fi, .string nm, .int .i64 5, .slice At nt ct, .slice Ag ng cg] 61) := ⟨_, rfl⟩
  have hb : Below w.heap.size w W0 := by rw [hW0]; exact ((Below.refl w.heap.size w).alloc (Nat.le_refl _) _).alloc (by simp) _
  have hb2 : Below w.heap.size w (W0.alloc (.cells ([a, b].map U64).toArray 22)) := hb.alloc hb.size _
  have HT := Lib.hid (tens_ok _ _ _ [a, b] _ (Sl_new W0 [a, b] (by simp)) (by simp) (by intro z hz; simp at hz; rcases hz with rfl | rfl; exact ha; exact hb0) (hL.below hb2))
  have HQ := Lib.hid (fun (e : Ending) (w' : World) (h : TnP [a, b] (W0.alloc (.cells ([a, b].map U64).toArray 22)) e w') => WdP.of hb2 h)
  have HW0 := Lib.hid hW0
  have hsz : W0.heap.size = w.heap.size + 2 := by rw [hW0]; simp
  simp only [List.map_cons, List.map_nil, List.length_cons, List.length_nil, U64, Nat.reduceAdd, hsz] at HT HQ
  clear hb hb2 hW0 hL
  go_enter Tryz.func39, Tryz.ntmps39
  go_upto_region 1 with fail
  rw [← HW0.out]
  have c3 : W0.cell? ⟨w.heap.size, 1, none⟩ = some (.int .u64 a) := by rw [HW0.out]; exact ((Blk.new w 30 _).alloc _).cell 1
  have c4 : W0.cell? ⟨w.heap.size, 2, none⟩ = some (.int .u64 b) := by rw [HW0.out]; exact ((Blk.new w 30 _).alloc _).cell 2
  have c5 : W0.cell? ⟨w.heap.size, 3, none⟩ = some (.int .i64 al) := by rw [HW0.out]; exact ((Blk.new w 30 _).alloc _).cell 3
  have c6 : W0.cell? ⟨w.heap.size + 1, 2, none⟩ = some (.int .i64 5) := by rw [HW0.out]; exact Blk.cell (heap2 w _ _) 2
  go_wp2_with fail
  with_reducible refine HT.out.mono ?_
  intro e w1 h1
  have h2 := HQ.out e w1 h1
  obtain ⟨v, rfl, h3, h4⟩ := h2
  have H3 := Lib.hid h3
  have H4 := Lib.hid h4
  clear h1 h3 h4
  go_wp2
  go_ret
  exact ⟨v, rfl, H3.out, H4.out⟩
set_option maxHeartbeats 4000000 in
set_option maxRecDepth 100000 in
theorem words_10 (cd a b al : Int) (A : Option Addr) (n c : Nat) (fi  : Int) (nm : ByteArray) (At Ag : Option Addr) (nt ct ng cg : Nat) (w : World) (hL : Lw w) (ha : 0 ≤ a ∧ a < 18446744073709551616) (hb0 : 0 ≤ b ∧ b < 18446744073709551616) :
    Calls Tryz.prog 39 #[.agg #[.int .i64 cd, .int .u64 a, .int .u64 b, .int .i64 al, .slice A n c], .agg #[.int .i64 fi, .string nm, .int .i64 10, .slice At nt ct, .slice Ag ng cg]] w (WdP ([a, b].map tn) w) := by
  obtain ⟨W0, hW0⟩ : ∃ V, V = (w.alloc (.cells #[.int .i64 cd, .int .u64 a, .int .u64 b, .int .i64 al, .slice A n c] 30)).alloc (.cells #[.int .i64 fi, .string nm, .int .i64 10, .slice At nt ct, .slice Ag ng cg] 61) := ⟨_, rfl⟩
  have hb : Below w.heap.size w W0 := by rw [hW0]; exact ((Below.refl w.heap.size w).alloc (Nat.le_refl _) _).alloc (by simp) _
  have hb2 : Below w.heap.size w (W0.alloc (.cells ([a, b].map U64).toArray 22)) := hb.alloc hb.size _
  have HT := Lib.hid (tens_ok _ _ _ [a, b] _ (Sl_new W0 [a, b] (by simp)) (by simp) (by intro z hz; simp at hz; rcases hz with rfl | rfl; exact ha; exact hb0) (hL.below hb2))
  have HQ := Lib.hid (fun (e : Ending) (w' : World) (h : TnP [a, b] (W0.alloc (.cells ([a, b].map U64).toArray 22)) e w') => WdP.of hb2 h)
  have HW0 := Lib.hid hW0
  have hsz : W0.heap.size = w.heap.size + 2 := by rw [hW0]; simp
  simp only [List.map_cons, List.map_nil, List.length_cons, List.length_nil, U64, Nat.reduceAdd, hsz] at HT HQ
  clear hb hb2 hW0 hL
  go_enter Tryz.func39, Tryz.ntmps39
  go_upto_region 1 with fail
  rw [← HW0.out]
  have c3 : W0.cell? ⟨w.heap.size, 1, none⟩ = some (.int .u64 a) := by rw [HW0.out]; exact ((Blk.new w 30 _).alloc _).cell 1
  have c4 : W0.cell? ⟨w.heap.size, 2, none⟩ = some (.int .u64 b) := by rw [HW0.out]; exact ((Blk.new w 30 _).alloc _).cell 2
  have c5 : W0.cell? ⟨w.heap.size, 3, none⟩ = some (.int .i64 al) := by rw [HW0.out]; exact ((Blk.new w 30 _).alloc _).cell 3
  have c6 : W0.cell? ⟨w.heap.size + 1, 2, none⟩ = some (.int .i64 10) := by rw [HW0.out]; exact Blk.cell (heap2 w _ _) 2
  go_wp2_with fail
  with_reducible refine HT.out.mono ?_
  intro e w1 h1
  have h2 := HQ.out e w1 h1
  obtain ⟨v, rfl, h3, h4⟩ := h2
  have H3 := Lib.hid h3
  have H4 := Lib.hid h4
  clear h1 h3 h4
  go_wp2
  go_ret
  exact ⟨v, rfl, H3.out, H4.out⟩
set_option maxHeartbeats 4000000 in
set_option maxRecDepth 100000 in
theorem words_8 (cd a b al : Int) (A : Option Addr) (n c : Nat) (fi  : Int) (nm : ByteArray) (At Ag : Option Addr) (nt ct ng cg : Nat) (w : World) (hL : Lw w) (ha : 0 ≤ a ∧ a < 18446744073709551616) (hb0 : 0 ≤ b ∧ b < 18446744073709551616) (hal : 0 ≤ al ∧ al ≤ 31) :
    Calls Tryz.prog 39 #[.agg #[.int .i64 cd, .int .u64 a, .int .u64 b, .int .i64 al, .slice A n c], .agg #[.int .i64 fi, .string nm, .int .i64 8, .slice At nt ct, .slice Ag ng cg]] w (WdP ([a, b, al].map tn) w) := by
  obtain ⟨W0, hW0⟩ : ∃ V, V = (w.alloc (.cells #[.int .i64 cd, .int .u64 a, .int .u64 b, .int .i64 al, .slice A n c] 30)).alloc (.cells #[.int .i64 fi, .string nm, .int .i64 8, .slice At nt ct, .slice Ag ng cg] 61) := ⟨_, rfl⟩
  have hb : Below w.heap.size w W0 := by rw [hW0]; exact ((Below.refl w.heap.size w).alloc (Nat.le_refl _) _).alloc (by simp) _
  have hb2 : Below w.heap.size w (W0.alloc (.cells ([a, b, al].map U64).toArray 22)) := hb.alloc hb.size _
  have HT := Lib.hid (tens_ok _ _ _ [a, b, al] _ (Sl_new W0 [a, b, al] (by simp)) (by simp) (by intro z hz; simp at hz; rcases hz with rfl | rfl | rfl; exact ha; exact hb0; omega) (hL.below hb2))
  have HQ := Lib.hid (fun (e : Ending) (w' : World) (h : TnP [a, b, al] (W0.alloc (.cells ([a, b, al].map U64).toArray 22)) e w') => WdP.of hb2 h)
  have HW0 := Lib.hid hW0
  have hsz : W0.heap.size = w.heap.size + 2 := by rw [hW0]; simp
  simp only [List.map_cons, List.map_nil, List.length_cons, List.length_nil, U64, Nat.reduceAdd, hsz] at HT HQ
  have hw : IntKind.u64.wrap al = al := by rw [IntKind.wrap_u64]; omega
  clear hb hb2 hW0 hL
  go_enter Tryz.func39, Tryz.ntmps39
  go_upto_region 1 with fail
  rw [← HW0.out]
  have c3 : W0.cell? ⟨w.heap.size, 1, none⟩ = some (.int .u64 a) := by rw [HW0.out]; exact ((Blk.new w 30 _).alloc _).cell 1
  have c4 : W0.cell? ⟨w.heap.size, 2, none⟩ = some (.int .u64 b) := by rw [HW0.out]; exact ((Blk.new w 30 _).alloc _).cell 2
  have c5 : W0.cell? ⟨w.heap.size, 3, none⟩ = some (.int .i64 al) := by rw [HW0.out]; exact ((Blk.new w 30 _).alloc _).cell 3
  have c6 : W0.cell? ⟨w.heap.size + 1, 2, none⟩ = some (.int .i64 8) := by rw [HW0.out]; exact Blk.cell (heap2 w _ _) 2
  go_wp2_with fail
  with_reducible refine HT.out.mono ?_
  intro e w1 h1
  have h2 := HQ.out e w1 h1
  obtain ⟨v, rfl, h3, h4⟩ := h2
  have H3 := Lib.hid h3
  have H4 := Lib.hid h4
  clear h1 h3 h4
  go_wp2
  go_ret
  exact ⟨v, rfl, H3.out, H4.out⟩
set_option maxHeartbeats 4000000 in
set_option maxRecDepth 100000 in
theorem words_x (cd a b al : Int) (A : Option Addr) (n c : Nat) (fi fo : Int) (nm : ByteArray) (At Ag : Option Addr) (nt ct ng cg : Nat) (w : World) (hL : Lw w) (ha : 0 ≤ a ∧ a < 18446744073709551616) (h0 : fo ≠ 0) (h1 : fo ≠ 1) (h3 : fo ≠ 3) (h5 : fo ≠ 5) (h10 : fo ≠ 10) (h8 : fo ≠ 8) (h11 : fo ≠ 11) :
    Calls Tryz.prog 39 #[.agg #[.int .i64 cd, .int .u64 a, .int .u64 b, .int .i64 al, .slice A n c], .agg #[.int .i64 fi, .string nm, .int .i64 fo, .slice At nt ct, .slice Ag ng cg]] w (WdP ([a].map tn) w) := by
  obtain ⟨W0, hW0⟩ : ∃ V, V = (w.alloc (.cells #[.int .i64 cd, .int .u64 a, .int .u64 b, .int .i64 al, .slice A n c] 30)).alloc (.cells #[.int .i64 fi, .string nm, .int .i64 fo, .slice At nt ct, .slice Ag ng cg] 61) := ⟨_, rfl⟩
  have hb : Below w.heap.size w W0 := by rw [hW0]; exact ((Below.refl w.heap.size w).alloc (Nat.le_refl _) _).alloc (by simp) _
  have hb2 : Below w.heap.size w (W0.alloc (.cells ([a].map U64).toArray 22)) := hb.alloc hb.size _
  have HT := Lib.hid (tens_ok _ _ _ [a] _ (Sl_new W0 [a] (by simp)) (by simp) (by intro z hz; simp at hz; subst hz; exact ha) (hL.below hb2))
  have HQ := Lib.hid (fun (e : Ending) (w' : World) (h : TnP [a] (W0.alloc (.cells ([a].map U64).toArray 22)) e w') => WdP.of hb2 h)
  have HW0 := Lib.hid hW0
  have hsz : W0.heap.size = w.heap.size + 2 := by rw [hW0]; simp
  simp only [List.map_cons, List.map_nil, List.length_cons, List.length_nil, U64, Nat.reduceAdd, hsz] at HT HQ
  have e0 : (fo == 0) = false := by simpa using h0
  have e1 : (fo == 1) = false := by simpa using h1
  have e3 : (fo == 3) = false := by simpa using h3
  have e5 : (fo == 5) = false := by simpa using h5
  have e10 : (fo == 10) = false := by simpa using h10
  have e8 : (fo == 8) = false := by simpa using h8
  have e11 : (fo == 11) = false := by simpa using h11
  clear h0 h1 h3 h5 h10 h8 h11
  clear hb hb2 hW0 hL
  go_enter Tryz.func39, Tryz.ntmps39
  go_upto_region 1 with fail
  rw [← HW0.out]
  have c3 : W0.cell? ⟨w.heap.size, 1, none⟩ = some (.int .u64 a) := by rw [HW0.out]; exact ((Blk.new w 30 _).alloc _).cell 1
  have c4 : W0.cell? ⟨w.heap.size, 2, none⟩ = some (.int .u64 b) := by rw [HW0.out]; exact ((Blk.new w 30 _).alloc _).cell 2
  have c5 : W0.cell? ⟨w.heap.size, 3, none⟩ = some (.int .i64 al) := by rw [HW0.out]; exact ((Blk.new w 30 _).alloc _).cell 3
  have c6 : W0.cell? ⟨w.heap.size + 1, 2, none⟩ = some (.int .i64 fo) := by rw [HW0.out]; exact Blk.cell (heap2 w _ _) 2
  go_wp2_with fail
  with_reducible refine HT.out.mono ?_
  intro e w1 h1
  have h2 := HQ.out e w1 h1
  obtain ⟨v, rfl, h3, h4⟩ := h2
  have H3 := Lib.hid h3
  have H4 := Lib.hid h4
  clear h1 h3 h4
  go_wp2
  go_ret
  exact ⟨v, rfl, H3.out, H4.out⟩
end Go.Proofs.YtggfaalodojjkaaGreatDoor
namespace Go.Proofs.YtggfaalodojjkaaGreatDoor
open Go.RowKit
set_option linter.unusedVariables false
set_option linter.unusedSimpArgs false
/-- bytes of numbers, one behind the other -/
def putL : List Int → List Nat
  | [] => []
  | z :: l => Leb.enc (Leb.szU z.toNat) z.toNat ++ putL l
def EnP (L : List Nat) (w : World) (e : Ending) (w' : World) : Prop := ∃ A n c, e = .returned (.tuple #[.slice A n c, .int .i64 0]) ∧ Byt w' A n c L ∧ n = L.length ∧ Below w.heap.size w w'
theorem results10 : Tryz.f10.results = #[.tmp 2, .tmp 3] := by kernel_rfl
theorem putL_more (N : List Int) (k : Nat) (hk : k < N.length) : putL (N.take (k + 1)) = putL (N.take k) ++ Leb.enc (Leb.szU (N.getD k 0).toNat) (N.getD k 0).toNat := by
  induction N generalizing k with
  | nil => simp at hk
  | cons z l ih =>
    cases k with
    | zero => simp [putL]
    | succ k =>
      have h := ih k (by simpa using hk)
      simp only [List.take_succ_cons, putL, List.getD_cons_succ, List.append_assoc] at h ⊢
      rw [h]
set_option maxHeartbeats 4000000 in
set_option maxRecDepth 100000 in
theorem enc_walk (cd a b al : Int) (A : Option Addr) (n c : Nat) (hnc : n ≤ c) (hcm : c ≤ 9223372036854775807) (w : World) (fi fo : Int) (nm : ByteArray) (nt ng : Nat) (hfo : fo ≠ 11) (H : List Nat) (N : List Int) (hN : N.length ≤ 10) (hz : ∀ z ∈ N, 0 ≤ z ∧ z < 18446744073709551616) (hH : H.length ≤ 20)
    (HO : Hid (∀ W, Below w.heap.size w W → Calls Tryz.prog 29 #[.agg #[.int .i64 cd, .int .u64 a, .int .u64 b, .int .i64 al, .slice A n c]] W fun e w' => ∃ At ct Ag cg, nt ≤ ct ∧ ct ≤ 9223372036854775807 ∧ ng ≤ cg ∧ cg ≤ 9223372036854775807 ∧ e = .returned (.tuple #[.agg #[.int .i64 fi, .string nm, .int .i64 fo, .slice At nt ct, .slice Ag ng cg], .bool true]) ∧ Below W.heap.size W w'))
    (HH : Hid (∀ W, Calls Tryz.prog 30 #[.int .i64 cd] W (HdP H W)))
    (HN : Hid (∀ W, Calls Tryz.prog 34 #[.agg #[.int .i64 cd, .int .u64 a, .int .u64 b, .int .i64 al, .slice A n c], .int .i64 fo] W (NuP N W))) :
    Calls Tryz.prog 10 #[.agg #[.int .i64 cd, .int .u64 a, .int .u64 b, .int .i64 al, .slice A n c]] w (EnP (H ++ putL N) w) := by
  obtain ⟨W0, hW0⟩ : ∃ V, V = w.alloc (.cells #[.int .i64 cd, .int .u64 a, .int .u64 b, .int .i64 al, .slice A n c] 30) := ⟨_, rfl⟩
  obtain ⟨bx, hbx⟩ : ∃ x, x = w.heap.size := ⟨_, rfl⟩
  have hb0 : Below w.heap.size w W0 := by rw [hW0]; exact (Below.refl _ _).alloc (Nat.le_refl _) _
  have hX0 : Blk W0 bx 30 #[.int .i64 cd, .int .u64 a, .int .u64 b, .int .i64 al, .slice A n c] := by rw [hW0, hbx]; exact Blk.new w 30 _
  have HB0 := Lib.hid hb0
  have HX := Lib.hid (fun V (hV : Below W0.heap.size W0 V) => hX0.below hV hX0.lt)
  have HO0 := Lib.hid (HO.out W0 hb0)
  have HW0 := Lib.hid hW0
  have HBX := Lib.hid hbx
  have x0 : W0.cell? ⟨bx, 0, none⟩ = some (.int .i64 cd) := hX0.cell 0
  have x1 : W0.cell? ⟨bx, 1, none⟩ = some (.int .u64 a) := hX0.cell 1
  have x2 : W0.cell? ⟨bx, 2, none⟩ = some (.int .u64 b) := hX0.cell 2
  have x3 : W0.cell? ⟨bx, 3, none⟩ = some (.int .i64 al) := hX0.cell 3
  have x4 : W0.cell? ⟨bx, 4, none⟩ = some (.slice A n c) := hX0.cell 4
  have hf2 : (fo == 11) = false := by simpa using hfo
  clear hb0 hX0 hW0 hbx HO hfo
  go_enter Tryz.func10, Tryz.ntmps10
  go_upto_region 1 with fail
  rw [← HBX.out]
  rw [← HW0.out]
  go_upto_region 2 with (first
    | (go_at_call 29; (with_reducible refine HO0.out.mono ?_); rintro e w1 ⟨At, ct, Ag, cg, hnt, hct, hng, hcg, rfl, hb1⟩
       have HW1 := Lib.hid hb1
       clear hb1))
  obtain ⟨W5, hW5⟩ : ∃ V, V = w1.alloc (.cells #[.int .i64 fi, .string nm, .int .i64 fo, .slice At nt ct, .slice Ag ng cg] 61) := ⟨_, rfl⟩
  obtain ⟨b4, hb4⟩ : ∃ x, x = w1.heap.size := ⟨_, rfl⟩
  have h15 : Below w1.heap.size w1 W5 := by rw [hW5]; exact (Below.refl _ _).alloc (Nat.le_refl _) _
  have hI : Blk W5 b4 61 #[.int .i64 fi, .string nm, .int .i64 fo, .slice At nt ct, .slice Ag ng cg] := by rw [hW5, hb4]; exact Blk.new w1 61 _
  rw [← hb4, ← hW5]
  have hxb := HX.out W5 (HW1.out.trans (h15.mono HW1.out.size))
  have H5 := Lib.hid (HW1.out.trans (h15.mono HW1.out.size))
  have HI := Lib.hid (fun V (hV : Below W5.heap.size W5 V) => hI.below hV hI.lt)
  clear x0 x1 x2 x3 x4
  have x0 : W5.cell? ⟨bx, 0, none⟩ = some (.int .i64 cd) := hxb.cell 0
  clear h15 hI hW5 hb4 hxb
  go_wp2_with fail
  with_reducible refine (HH.out _).mono ?_
  rintro e w2 ⟨Ah, nh, ch, rfl, hhy, hb2, hnh⟩
  have HHY := Lib.hid hhy
  have HNH := Lib.hid hnh
  have hch := hhy.2.2.1
  have hchm := hhy.2.2.2.1
  unfold maxLen at hchm
  have H2 := Lib.hid (H5.out.trans (hb2.mono H5.out.size))
  have hib := HI.out w2 hb2
  have hxb := HX.out w2 H2.out
  have i2 : w2.cell? ⟨b4, 2, none⟩ = some (.int .i64 fo) := hib.cell 2
  clear x0 hhy hnh hb2
  have x0 : w2.cell? ⟨bx, 0, none⟩ = some (.int .i64 cd) := hxb.cell 0
  have x1 : w2.cell? ⟨bx, 1, none⟩ = some (.int .u64 a) := hxb.cell 1
  have x2 : w2.cell? ⟨bx, 2, none⟩ = some (.int .u64 b) := hxb.cell 2
  have x3 : w2.cell? ⟨bx, 3, none⟩ = some (.int .i64 al) := hxb.cell 3
  have x4 : w2.cell? ⟨bx, 4, none⟩ = some (.slice A n c) := hxb.cell 4
  clear hib hxb
  go_wp2_with fail
  with_reducible refine (HN.out _).mono ?_
  rintro e w3 ⟨An, nn, cn, rfl, hsl, hb3⟩
  have hcn := hsl.2.1
  have hcnm := hsl.2.2.1
  have hnl := hsl.1
  subst hnl
  unfold maxLen at hcnm
  have H3 := Lib.hid (HB0.out.trans ((H2.out.trans (hb3.mono H2.out.size)).mono HB0.out.size))
  have HHY3 := Lib.hid (HHY.out.kept hb3)
  have HSL := Lib.hid hsl
  have HHL := Lib.hid hH
  have HZ := Lib.hid hz
  clear x0 x1 x2 x3 x4 i2 hsl hb3 hH hz
  go_wp2_with fail
  go_loopw [34, 6] (fun v34 v6 wr => ∃ (k : Nat) (g : Option Addr) (m cp : Nat), k ≤ N.length ∧ v34 = .int .i64 k ∧ v6 = .slice g m cp ∧ m ≤ cp ∧ cp ≤ 9223372036854775807 ∧ m ≤ 20 + 10 * k ∧ Hid (Byt wr g m cp (H ++ putL (N.take k))) ∧ Hid (m = (H ++ putL (N.take k)).length) ∧ Hid (Below w3.heap.size w3 wr)) (fun v34 _ _ => N.length - (intOf v34).toNat)
  case atStart => exact ⟨0, Ah, nh, ch, by omega, rfl, rfl, hch, hchm, by have := HNH.out; have := HHL.out; omega, Lib.hid (by simpa [putL] using HHY3.out), Lib.hid (by simpa [putL] using HNH.out), Lib.hid (Below.refl _ _)⟩
  case round =>
    obtain ⟨k, g, m, cp, hk, rfl, rfl, hm1, hm2, hm3, HY, HM, HB⟩ := hrel
    by_cases hlt : k < N.length
    · obtain ⟨bn, off, rfl, hbl, hcell⟩ := HSL.out.2.2.2 (by omega)
      have h0 := (HB.out.cell (p := ⟨bn, off + k, none⟩) hbl).trans (hcell k hlt)
      unfold U64 at h0
      have hzz := HZ.out (N.getD k 0) (by rw [List.getD_eq_getElem?_getD, List.getElem?_eq_getElem hlt]; exact List.getElem_mem hlt)
      have HPL := Lib.hid (putL_more N k hlt)
      clear hcell
      generalize N.getD k 0 = z at h0 hzz HPL
      obtain ⟨q, rfl⟩ := Int.eq_ofNat_of_zero_le hzz.1
      have HP := Lib.hid (Put_any g m cp (H ++ putL (N.take k)) q wr HY.out (by omega) (by omega))
      have HSZ := Lib.hid (Leb.szU_le 9 q (by omega))
      rw [Int.toNat_natCast] at HPL
      unfold PutPost at HP
      go_wp2_with fail
      with_reducible refine HP.out.mono ?_
      rintro e w4 ⟨g4, cp4, rfl, hby, hb4⟩
      have HY4 : Hid (Byt w4 (some ⟨g4, 0, none⟩) (m + Leb.szU q + 1) cp4 (H ++ putL (N.take (k + 1)))) := Lib.hid (by rw [HPL.out, ← List.append_assoc]; exact hby)
      have HB4 := Lib.hid (HB.out.trans (hb4.mono HB.out.size))
      have HM4 : Hid (m + Leb.szU q + 1 = (H ++ putL (N.take (k + 1))).length) := Lib.hid (by rw [HPL.out, ← List.append_assoc, List.length_append, enc_len, ← HM.out]; omega)
      have q1 := hby.2.2.1
      have q2 := hby.2.2.2.1
      unfold maxLen at q2
      clear hby hb4
      obtain ⟨mm, hmm⟩ : ∃ mm, mm = m + Leb.szU q + 1 := ⟨_, rfl⟩
      have hmm2 : mm ≤ 20 + 10 * (k + 1) := by have := HSZ.out; omega
      rw [← hmm] at HY4 HM4 q1 ⊢
      clear hmm
      go_wp2
      go_roundw
      case rel => exact ⟨k + 1, some ⟨g4, 0, none⟩, mm, cp4, by omega, by go_num, rfl, q1, by omega, hmm2, HY4, HM4, HB4⟩
      case measure => simp [intOf]; omega
    · obtain rfl : k = N.length := by omega
      go_wp2
      refine bodyPost_ret (results_tmp2 results10 _ _ _) rfl ?_
      have hy := HY.out
      have hmm := HM.out
      rw [List.take_of_length_le (Nat.le_refl _)] at hy hmm
      exact ⟨g, m, cp, rfl, hy, hmm, H3.out.trans (HB.out.mono H3.out.size)⟩
end Go.Proofs.YtggfaalodojjkaaGreatDoor
namespace Go.Proofs.YtggfaalodojjkaaGreatDoor
open Go.RowKit
set_option linter.unusedVariables false
set_option linter.unusedSimpArgs false
theorem own_below0 {E size B : Nat} {w wr w3 : World} {v : Value} {n : Nat} {xs : List Value} (hb : Below B w wr) (h : wr.ownsRow B E size v n xs) (hg : wr.grownBy w3 v.ownBlock) (hB : B ≤ wr.heap.size) : Below B w w3 :=
  hb.grown hg hB (fun j hj => by have := (h.lt j hj).1; omega)
theorem own_one (V : World) (B : Nat) (nl : List UInt8) (hB : B ≤ V.heap.size) : (V.alloc (.cells #[.string (bs nl)] 9)).ownsRow B 9 1 (.slice (some ⟨V.heap.size, 0, none⟩) 1 1) 1 ([nl].map Sv) :=
  ⟨by simp, .inr ⟨V.heap.size, 1, _, rfl, hB, heap_alloc_new V _, Nat.le_refl _, by unfold maxLen; omega, by simp, by simp [Sv]⟩⟩
theorem join_ok (g n cp : Nat) (xs : List (List UInt8)) (w : World) (B : Nat) (h : w.ownsRow B 9 1 (.slice (some ⟨g, 0, none⟩) n cp) n (xs.map Sv)) (hn : xs.length = n) (hc : n ≤ cp) (hl : xs.length ≤ 1000000) (hj : (Lib.join xs [32]).length ≤ 1000000) :
    Calls Tryz.prog 40 #[.slice (some ⟨g, 0, none⟩) n cp, .string ⟨#[32]⟩] w fun e w' => e = .returned (.string (bs (Lib.join xs [32]))) ∧ Below w.heap.size w w' := by
  have hm : (xs.map bs).map (·.data.toList) = xs := by
    rw [List.map_map]
    have : ((fun x : ByteArray => x.data.toList) ∘ bs) = id := by funext l; simp [bs]
    rw [this, List.map_id]
  have hg : g < w.heap.size := by
    obtain ⟨cs, hb⟩ := own_ty h rfl
    exact hb.lt
  have := Tryz.strings_Join g 0 cp (xs.map bs) ⟨#[32]⟩ w (fun j x hx => by
    rw [List.getElem?_map] at hx
    cases hq : xs[j]? with
    | none => rw [hq] at hx; cases hx
    | some l =>
      rw [hq] at hx
      cases hx
      have hjl := (List.getElem?_eq_some_iff.1 hq).1
      rw [Nat.zero_add, h.cellAt j (by omega), List.getElem?_map, hq]
      rfl) hg (by rw [List.length_map]; omega) (by rw [List.length_map]; omega) (by rw [hm]; simp; omega)
  rw [hm, List.length_map, hn] at this
  exact this
theorem results14 : Tryz.f14.results = #[.tmp 2] := by kernel_rfl
set_option maxHeartbeats 4000000 in
set_option maxRecDepth 100000 in
theorem print_walk (cd a b al : Int) (A : Option Addr) (n c : Nat) (hnc : n ≤ c) (hcm : c ≤ 9223372036854775807) (w : World) (fi fo : Int) (nl : List UInt8) (nt ng : Nat) (ws : List (List UInt8)) (hwl : ws.length ≤ 100000) (hjl : (Lib.join (nl :: ws) [32]).length ≤ 1000000)
    (HO : Hid (∀ W, Below w.heap.size w W → Calls Tryz.prog 29 #[.agg #[.int .i64 cd, .int .u64 a, .int .u64 b, .int .i64 al, .slice A n c]] W fun e w' => ∃ At ct Ag cg, nt ≤ ct ∧ ct ≤ 9223372036854775807 ∧ ng ≤ cg ∧ cg ≤ 9223372036854775807 ∧ e = .returned (.tuple #[.agg #[.int .i64 fi, .string (bs nl), .int .i64 fo, .slice At nt ct, .slice Ag ng cg], .bool true]) ∧ Below W.heap.size W w'))
    (HWd : Hid (∀ At ct Ag cg W, Below w.heap.size w W → Calls Tryz.prog 39 #[.agg #[.int .i64 cd, .int .u64 a, .int .u64 b, .int .i64 al, .slice A n c], .agg #[.int .i64 fi, .string (bs nl), .int .i64 fo, .slice At nt ct, .slice Ag ng cg]] W (WdP ws W))) :
    Calls Tryz.prog 14 #[.agg #[.int .i64 cd, .int .u64 a, .int .u64 b, .int .i64 al, .slice A n c]] w fun e w' => e = .returned (.string (bs (Lib.join (nl :: ws) [32]))) ∧ Below w.heap.size w w' := by
  obtain ⟨W0, hW0⟩ : ∃ V, V = w.alloc (.cells #[.int .i64 cd, .int .u64 a, .int .u64 b, .int .i64 al, .slice A n c] 30) := ⟨_, rfl⟩
  obtain ⟨bx, hbx⟩ : ∃ x, x = w.heap.size := ⟨_, rfl⟩
  have hb0 : Below w.heap.size w W0 := by rw [hW0]; exact (Below.refl _ _).alloc (Nat.le_refl _) _
  have hX0 : Blk W0 bx 30 #[.int .i64 cd, .int .u64 a, .int .u64 b, .int .i64 al, .slice A n c] := by rw [hW0, hbx]; exact Blk.new w 30 _
  have HB0 := Lib.hid hb0
  have HX := Lib.hid (fun V (hV : Below W0.heap.size W0 V) => hX0.below hV hX0.lt)
  have HO0 := Lib.hid (HO.out W0 hb0)
  have HW0 := Lib.hid hW0
  have HBX := Lib.hid hbx
  have HWL := Lib.hid hwl
  have HJL := Lib.hid hjl
  have x0 : W0.cell? ⟨bx, 0, none⟩ = some (.int .i64 cd) := hX0.cell 0
  have x1 : W0.cell? ⟨bx, 1, none⟩ = some (.int .u64 a) := hX0.cell 1
  have x2 : W0.cell? ⟨bx, 2, none⟩ = some (.int .u64 b) := hX0.cell 2
  have x3 : W0.cell? ⟨bx, 3, none⟩ = some (.int .i64 al) := hX0.cell 3
  have x4 : W0.cell? ⟨bx, 4, none⟩ = some (.slice A n c) := hX0.cell 4
  clear hb0 hX0 hW0 hbx HO hwl hjl
  go_enter Tryz.func14, Tryz.ntmps14
  go_upto_region 1 with fail
  rw [← HBX.out]
  rw [← HW0.out]
  go_upto_region 2 with (first
    | (go_at_call 29; (with_reducible refine HO0.out.mono ?_); rintro e w1 ⟨At, ct, Ag, cg, hnt, hct, hng, hcg, rfl, hb1⟩
       have HW1 := Lib.hid hb1
       clear hb1))
  obtain ⟨W5, hW5⟩ : ∃ V, V = w1.alloc (.cells #[.int .i64 fi, .string (bs nl), .int .i64 fo, .slice At nt ct, .slice Ag ng cg] 61) := ⟨_, rfl⟩
  obtain ⟨b4, hb4⟩ : ∃ x, x = w1.heap.size := ⟨_, rfl⟩
  have h15 : Below w1.heap.size w1 W5 := by rw [hW5]; exact (Below.refl _ _).alloc (Nat.le_refl _) _
  have hI : Blk W5 b4 61 #[.int .i64 fi, .string (bs nl), .int .i64 fo, .slice At nt ct, .slice Ag ng cg] := by rw [hW5, hb4]; exact Blk.new w1 61 _
  rw [← hb4, ← hW5]
  have HB5 : Hid (Below w.heap.size w W5) := Lib.hid (HB0.out.trans ((HW1.out.trans (h15.mono HW1.out.size)).mono HB0.out.size))
  have HX5 : Hid (Below W0.heap.size W0 W5) := Lib.hid (HW1.out.trans (h15.mono HW1.out.size))
  have HVD : Hid (Below W5.heap.size W5 W5.drew) := Lib.hid (below_drew (Below.refl _ _))
  have HKS : Hid (∀ V, Below W5.heap.size W5 V → V.cell? ⟨bx, 0, none⟩ = some (.int .i64 cd) ∧ V.cell? ⟨bx, 1, none⟩ = some (.int .u64 a) ∧ V.cell? ⟨bx, 2, none⟩ = some (.int .u64 b) ∧ V.cell? ⟨bx, 3, none⟩ = some (.int .i64 al) ∧ V.cell? ⟨bx, 4, none⟩ = some (.slice A n c) ∧ V.cell? ⟨b4, 0, none⟩ = some (.int .i64 fi) ∧ V.cell? ⟨b4, 1, none⟩ = some (.string (bs nl)) ∧ V.cell? ⟨b4, 2, none⟩ = some (.int .i64 fo) ∧ V.cell? ⟨b4, 3, none⟩ = some (.slice At nt ct) ∧ V.cell? ⟨b4, 4, none⟩ = some (.slice Ag ng cg)) := Lib.hid (fun V hV => by
    have hx := HX.out V (HX5.out.trans (hV.mono HX5.out.size))
    have hi := hI.below hV hI.lt
    exact ⟨hx.cell 0, hx.cell 1, hx.cell 2, hx.cell 3, hx.cell 4, hi.cell 0, hi.cell 1, hi.cell 2, hi.cell 3, hi.cell 4⟩)
  have HWD := HWd
  have hks0 := HKS.out W5.drew HVD.out
  clear h15 hI hW5 hb4 HWd x0 x1 x2 x3 x4
  go_upto_region 4 with fail
  refine wp_region_noPanic ?_
  refine wp_region_held_drew (S := (fun W => W.cell? ⟨bx, 0, none⟩ = some (.int .i64 cd) ∧ W.cell? ⟨bx, 1, none⟩ = some (.int .u64 a) ∧ W.cell? ⟨bx, 2, none⟩ = some (.int .u64 b) ∧ W.cell? ⟨bx, 3, none⟩ = some (.int .i64 al) ∧ W.cell? ⟨bx, 4, none⟩ = some (.slice A n c) ∧ W.cell? ⟨b4, 0, none⟩ = some (.int .i64 fi) ∧ W.cell? ⟨b4, 1, none⟩ = some (.string (bs nl)) ∧ W.cell? ⟨b4, 2, none⟩ = some (.int .i64 fo) ∧ W.cell? ⟨b4, 3, none⟩ = some (.slice At nt ct) ∧ W.cell? ⟨b4, 4, none⟩ = some (.slice Ag ng cg))) (by kernel_rfl) hks0 (fun hHeld => ?_)
  refine wpAnyH_take (i := 0) (oi := ?oi_1) (v := ?_) ?hi_1 (by kernel_rfl) ?hf_1 (by kernel_rfl) ?hQ_1 ?hy_1 (by assumption) ?_
  case hi_1 => simp only [List.getElem?_toArray, List.getElem?_cons_zero, List.getElem?_cons_succ]; try rfl
  case hf_1 => kernel_rfl
  case hQ_1 => exact fun _ _ _ h => h
  case hy_1 =>
    refine Or.inl ⟨by rfl, ?_⟩
    intro W hSw
    obtain ⟨q0, q1, q2, q3, q4, q5, q6, q7, q8, q9⟩ := hSw
    go_simp
    try with_reducible rfl
  try simp only [Act.put, List.setIfInBounds_toArray, List.set_cons_zero, List.set_cons_succ]
  refine wpAnyH_take (i := 1) (oi := ?oi_2) (v := ?_) ?hi_2 (by kernel_rfl) ?hf_2 (by kernel_rfl) ?hQ_2 ?hy_2 (by assumption) ?_
  case hi_2 => simp only [List.getElem?_toArray, List.getElem?_cons_zero, List.getElem?_cons_succ]; try rfl
  case hf_2 => kernel_rfl
  case hQ_2 => exact fun _ _ _ h => h
  case hy_2 =>
    refine Or.inl ⟨by rfl, ?_⟩
    intro W hSw
    obtain ⟨q0, q1, q2, q3, q4, q5, q6, q7, q8, q9⟩ := hSw
    go_simp
    try with_reducible rfl
  try simp only [Act.put, List.setIfInBounds_toArray, List.set_cons_zero, List.set_cons_succ]
  refine wpAnyH_take (i := 3) (oi := ?oi_3) (v := ?_) ?hi_3 (by kernel_rfl) ?hf_3 (by kernel_rfl) ?hQ_3 ?hy_3 (by assumption) ?_
  case hi_3 => simp only [List.getElem?_toArray, List.getElem?_cons_zero, List.getElem?_cons_succ]; try rfl
  case hf_3 => kernel_rfl
  case hQ_3 => exact fun _ _ _ h => h
  case hy_3 =>
    refine Or.inl ⟨by rfl, ?_⟩
    intro W hSw
    obtain ⟨q0, q1, q2, q3, q4, q5, q6, q7, q8, q9⟩ := hSw
    go_simp
    try with_reducible rfl
  try simp only [Act.put, List.setIfInBounds_toArray, List.set_cons_zero, List.set_cons_succ]
  refine wpAnyH_take (i := 4) (oi := ?oi_4) (v := ?_) ?hi_4 (by kernel_rfl) ?hf_4 (by kernel_rfl) ?hQ_4 ?hy_4 (by assumption) ?_
  case hi_4 => simp only [List.getElem?_toArray, List.getElem?_cons_zero, List.getElem?_cons_succ]; try rfl
  case hf_4 => kernel_rfl
  case hQ_4 => exact fun _ _ _ h => h
  case hy_4 =>
    refine Or.inl ⟨by rfl, ?_⟩
    intro W hSw
    obtain ⟨q0, q1, q2, q3, q4, q5, q6, q7, q8, q9⟩ := hSw
    go_simp
    try with_reducible rfl
  try simp only [Act.put, List.setIfInBounds_toArray, List.set_cons_zero, List.set_cons_succ]
  refine wpAnyH_ready (rs := [2, 5]) (by kernel_rfl) (by simp) ?_
  refine AllReadyH.cons (o := ?oi_11_0) ?hi_11_0 (fun K hK => ?_) (AllReadyH.cons (o := ?oi_11_1) ?hi_11_1 (fun K hK => ?_) AllReadyH.nil)
  case hi_11_0 => simp only [List.getElem?_toArray, List.getElem?_cons_zero, List.getElem?_cons_succ]; try rfl
  case hi_11_1 => simp only [List.getElem?_toArray, List.getElem?_cons_zero, List.getElem?_cons_succ]; try rfl
  · go_simp
    have HVA : Hid (Below W5.heap.size W5 (W5.alloc (.cells #[.string (bs nl)] 9)).drew) := Lib.hid (below_drew ((Below.refl _ _).alloc (Nat.le_refl _) _))
    have HRo : Hid ((W5.alloc (.cells #[.string (bs nl)] 9)).drew.ownsRow W5.heap.size 9 1 (.slice (some ⟨W5.heap.size, 0, none⟩) 1 1) 1 ([nl].map Sv)) := Lib.hid (own_one W5 W5.heap.size nl (Nat.le_refl _))
    have hk_ := HKS.out _ HVA.out
    refine hK.out _ _ hk_ (fun hHeld => ?_)
    clear hK K
    try simp only [Act.put, List.setIfInBounds_toArray, List.set_cons_zero, List.set_cons_succ]
    refine wpAnyH_ready (rs := [5]) (by kernel_rfl) (by simp) ?_
    refine AllReadyH.cons (o := ?oi_7_0) ?hi_7_0 (fun K hK => ?_) AllReadyH.nil
    case hi_7_0 => simp only [List.getElem?_toArray, List.getElem?_cons_zero, List.getElem?_cons_succ]; try rfl
    go_simp
    (go_at_call 39
     (with_reducible refine (HWD.out At ct Ag cg _ (HB5.out.trans (HVA.out.mono HB5.out.size))).mono ?_)
     rintro e w7 ⟨v18, rfl, hown, hb7⟩
     have HV7 := Lib.hid (HVA.out.trans (hb7.mono HVA.out.size))
     have HO7 := Lib.hid (own_base hown ((HB5.out.trans (HVA.out.mono HB5.out.size)).size))
     have HR7 := Lib.hid (own_kept HRo.out hb7)
     have hk_ := HKS.out _ HV7.out
     clear hown hb7)
    refine hK.out _ _ hk_ (fun hHeld => ?_)
    clear hK K
    try simp only [Act.put, List.setIfInBounds_toArray, List.set_cons_zero, List.set_cons_succ]
    refine wpAnyH_ready (rs := [6]) (by kernel_rfl) (by simp) ?_
    refine AllReadyH.cons (o := ?oi_6_0) ?hi_6_0 (fun K hK => ?_) AllReadyH.nil
    case hi_6_0 => simp only [List.getElem?_toArray, List.getElem?_cons_zero, List.getElem?_cons_succ]; try rfl
    obtain ⟨v19, w19, hr, ho, hg⟩ := app_str _ W5.heap.size w.heap.size 1 ws.length _ _ [nl] ws HR7.out HO7.out (by have := HWL.out; omega) HV7.out.size
    have HB9 := Lib.hid (own_below0 HV7.out HR7.out hg HV7.out.size)
    have HO9 := Lib.hid ho
    have hk_ := HKS.out _ HB9.out
    refine step_append_run rfl (.tmp 15) (.tmp 18) 73 rfl _ _ v19 w19 rfl rfl hr ?_
    clear hr ho hg
    refine hK.out _ _ hk_ (fun hHeld => ?_)
    clear hK K
    try simp only [Act.put, List.setIfInBounds_toArray, List.set_cons_zero, List.set_cons_succ]
    refine wpAnyH_take (i := 7) (oi := ?oi_5) (v := ?_) ?hi_5 (by kernel_rfl) ?hf_5 (by kernel_rfl) ?hQ_5 ?hy_5 (by assumption) ?_
    case hi_5 => simp only [List.getElem?_toArray, List.getElem?_cons_zero, List.getElem?_cons_succ]; try rfl
    case hf_5 => kernel_rfl
    case hQ_5 => exact fun _ _ _ h => h
    case hy_5 =>
      refine Or.inl ⟨by rfl, ?_⟩
      intro W hSw
      obtain ⟨q0, q1, q2, q3, q4, q5, q6, q7, q8, q9⟩ := hSw
      go_simp
      try with_reducible rfl
    try simp only [Act.put, List.setIfInBounds_toArray, List.set_cons_zero, List.set_cons_succ]
    refine wpAnyH_done (by kernel_rfl) ?_ _
    refine NoPanic.normal ?_
    clear hHeld
    obtain ⟨g9, cp9, e9, q1, q2⟩ := own_some HO9.out (by omega)
    subst e9
    unfold maxLen at q2
    have HJ := Lib.hid (join_ok g9 (1 + ws.length) cp9 (nl :: ws) w19 W5.heap.size HO9.out (by simp; omega) q1 (by have := HWL.out; simp only [List.length_cons]; omega) HJL.out)
    have HB19 := Lib.hid (HB5.out.trans (HB9.out.mono HB5.out.size))
    go_wp2_with (go_at_call 40; (with_reducible refine HJ.out.mono ?_); rintro e w20 ⟨rfl, hb20⟩; have HB20 := Lib.hid (HB19.out.trans (hb20.mono HB19.out.size)); clear hb20)
    go_ret
    exact ⟨rfl, HB20.out⟩
  · go_simp
    (go_at_call 39
     (with_reducible refine (HWD.out At ct Ag cg _ (HB5.out.trans (HVD.out.mono HB5.out.size))).mono ?_)
     rintro e w7 ⟨v18, rfl, hown, hb7⟩
     have HV7 := Lib.hid (HVD.out.trans (hb7.mono HVD.out.size))
     have HO7 := Lib.hid (own_base hown ((HB5.out.trans (HVD.out.mono HB5.out.size)).size))
     have hk_ := HKS.out _ HV7.out
     clear hown hb7)
    refine hK.out _ _ hk_ (fun hHeld => ?_)
    clear hK K
    try simp only [Act.put, List.setIfInBounds_toArray, List.set_cons_zero, List.set_cons_succ]
    refine wpAnyH_ready (rs := [2]) (by kernel_rfl) (by simp) ?_
    refine AllReadyH.cons (o := ?oi_10_0) ?hi_10_0 (fun K hK => ?_) AllReadyH.nil
    case hi_10_0 => simp only [List.getElem?_toArray, List.getElem?_cons_zero, List.getElem?_cons_succ]; try rfl
    go_simp
    have HVA := Lib.hid (HV7.out.alloc HV7.out.size (.cells #[.string (bs nl)] 9))
    have HRo := Lib.hid (own_one w7 W5.heap.size nl HV7.out.size)
    have HO8 := Lib.hid (own_kept HO7.out ((Below.refl _ _).alloc (Nat.le_refl _) (.cells #[.string (bs nl)] 9)))
    have hk_ := HKS.out _ HVA.out
    refine hK.out _ _ hk_ (fun hHeld => ?_)
    clear hK K
    try simp only [Act.put, List.setIfInBounds_toArray, List.set_cons_zero, List.set_cons_succ]
    refine wpAnyH_ready (rs := [6]) (by kernel_rfl) (by simp) ?_
    refine AllReadyH.cons (o := ?oi_9_0) ?hi_9_0 (fun K hK => ?_) AllReadyH.nil
    case hi_9_0 => simp only [List.getElem?_toArray, List.getElem?_cons_zero, List.getElem?_cons_succ]; try rfl
    obtain ⟨v19, w19, hr, ho, hg⟩ := app_str _ W5.heap.size w.heap.size 1 ws.length _ _ [nl] ws HRo.out HO8.out (by have := HWL.out; omega) HVA.out.size
    have HB9 := Lib.hid (own_below0 HVA.out HRo.out hg HVA.out.size)
    have HO9 := Lib.hid ho
    have hk_ := HKS.out _ HB9.out
    refine step_append_run rfl (.tmp 15) (.tmp 18) 73 rfl _ _ v19 w19 rfl rfl hr ?_
    clear hr ho hg
    refine hK.out _ _ hk_ (fun hHeld => ?_)
    clear hK K
    try simp only [Act.put, List.setIfInBounds_toArray, List.set_cons_zero, List.set_cons_succ]
    refine wpAnyH_take (i := 7) (oi := ?oi_8) (v := ?_) ?hi_8 (by kernel_rfl) ?hf_8 (by kernel_rfl) ?hQ_8 ?hy_8 (by assumption) ?_
    case hi_8 => simp only [List.getElem?_toArray, List.getElem?_cons_zero, List.getElem?_cons_succ]; try rfl
    case hf_8 => kernel_rfl
    case hQ_8 => exact fun _ _ _ h => h
    case hy_8 =>
      refine Or.inl ⟨by rfl, ?_⟩
      intro W hSw
      obtain ⟨q0, q1, q2, q3, q4, q5, q6, q7, q8, q9⟩ := hSw
      go_simp
      try with_reducible rfl
    try simp only [Act.put, List.setIfInBounds_toArray, List.set_cons_zero, List.set_cons_succ]
    refine wpAnyH_done (by kernel_rfl) ?_ _
    refine NoPanic.normal ?_
    clear hHeld
    obtain ⟨g9, cp9, e9, q1, q2⟩ := own_some HO9.out (by omega)
    subst e9
    unfold maxLen at q2
    have HJ := Lib.hid (join_ok g9 (1 + ws.length) cp9 (nl :: ws) w19 W5.heap.size HO9.out (by simp; omega) q1 (by have := HWL.out; simp only [List.length_cons]; omega) HJL.out)
    have HB19 := Lib.hid (HB5.out.trans (HB9.out.mono HB5.out.size))
    go_wp2_with (go_at_call 40; (with_reducible refine HJ.out.mono ?_); rintro e w20 ⟨rfl, hb20⟩; have HB20 := Lib.hid (HB19.out.trans (hb20.mono HB19.out.size)); clear hb20)
    go_ret
    exact ⟨rfl, HB20.out⟩
end Go.Proofs.YtggfaalodojjkaaGreatDoor
