/-
  The law's Great of a module.
-/
import Derived.Test.YtackompihengfaaFg
import Derived.Deep.RegionHeld3
import Derived.Deep.DeepCutAuto
import Derived.Laws.BitsLemmas
namespace Go.Proofs.Ytackompihengfaa
open Go.RowKit
set_option linter.unusedVariables false
set_option linter.unusedSimpArgs false
def MGr (x : Mt) (w : World) (e : Ending) (w' : World) : Prop := Below w.heap.size w w' ∧ ∃ r : Nat, e = .returned (.int .i64 (r : Nat)) ∧ (r = 0 → MtSm x)
theorem mx60 (n : Nat) : (if (n : Int) - 60 < 0 then 0 else (n : Int) - 60) = ((n - 60 : Nat) : Int) := by split <;> omega
theorem mx25 (n : Nat) : (if (n : Int) - 25 < 0 then 0 else (n : Int) - 25) = ((n - 25 : Nat) : Int) := by split <;> omega
theorem mx110 (n : Nat) : (if (n : Int) - 110 < 0 then 0 else (n : Int) - 110) = ((n - 110 : Nat) : Int) := by split <;> omega
theorem mx8 (n : Nat) : (if (n : Int) - 8 < 0 then 0 else (n : Int) - 8) = ((n - 8 : Nat) : Int) := by split <;> omega
theorem mx30 (n : Nat) : (if (n : Int) - 30 < 0 then 0 else (n : Int) - 30) = ((n - 30 : Nat) : Int) := by split <;> omega
theorem mx4100 (n : Nat) : (if (n : Int) - 4100 < 0 then 0 else (n : Int) - 4100) = ((n - 4100 : Nat) : Int) := by split <;> omega
theorem mxa60 (p q : Nat) : (if (p : Int) + (q : Int) - 60 < 0 then 0 else (p : Int) + (q : Int) - 60) = ((p + q - 60 : Nat) : Int) := by split <;> omega
theorem mxa100 (p q : Nat) : (if (p : Int) + (q : Int) - 100 < 0 then 0 else (p : Int) + (q : Int) - 100) = ((p + q - 100 : Nat) : Int) := by split <;> omega
theorem q60 (ts : Array TypeId) (t : TypeId) (W : World) (n : Nat) : Sem.run Try.prog (Builtin.max_ ts t #[.int .i64 ((n : Int) - 60), .int .i64 0]) W = .ok (.int .i64 ((n - 60 : Nat) : Int)) W := by rw [run_max_int2]; congr 2; split <;> omega
theorem q25 (ts : Array TypeId) (t : TypeId) (W : World) (n : Nat) : Sem.run Try.prog (Builtin.max_ ts t #[.int .i64 ((n : Int) - 25), .int .i64 0]) W = .ok (.int .i64 ((n - 25 : Nat) : Int)) W := by rw [run_max_int2]; congr 2; split <;> omega
theorem q110 (ts : Array TypeId) (t : TypeId) (W : World) (n : Nat) : Sem.run Try.prog (Builtin.max_ ts t #[.int .i64 ((n : Int) - 110), .int .i64 0]) W = .ok (.int .i64 ((n - 110 : Nat) : Int)) W := by rw [run_max_int2]; congr 2; split <;> omega
theorem q8 (ts : Array TypeId) (t : TypeId) (W : World) (n : Nat) : Sem.run Try.prog (Builtin.max_ ts t #[.int .i64 ((n : Int) - 8), .int .i64 0]) W = .ok (.int .i64 ((n - 8 : Nat) : Int)) W := by rw [run_max_int2]; congr 2; split <;> omega
theorem q30 (ts : Array TypeId) (t : TypeId) (W : World) (n : Nat) : Sem.run Try.prog (Builtin.max_ ts t #[.int .i64 ((n : Int) - 30), .int .i64 0]) W = .ok (.int .i64 ((n - 30 : Nat) : Int)) W := by rw [run_max_int2]; congr 2; split <;> omega
theorem q4100 (ts : Array TypeId) (t : TypeId) (W : World) (n : Nat) : Sem.run Try.prog (Builtin.max_ ts t #[.int .i64 ((n : Int) - 4100), .int .i64 0]) W = .ok (.int .i64 ((n - 4100 : Nat) : Int)) W := by rw [run_max_int2]; congr 2; split <;> omega
theorem sum60 (r p q : Nat) (hp : p ≤ 140737488355328) (hq : q ≤ 140737488355328) (hr : (r : Int) ≤ 4611686018427387904) :
    Value.int .i64 (IntKind.i64.wrap ((r : Int) + if IntKind.i64.wrap (IntKind.i64.wrap ((p : Int) + q) - 60) < 0 then 0 else IntKind.i64.wrap (IntKind.i64.wrap ((p : Int) + q) - 60))) = Value.int .i64 ((r + (p + q - 60) : Nat) : Int) := by
  have e1 : IntKind.i64.wrap ((p : Int) + q) = (p : Int) + q := by rw [IntKind.wrap_i64]; omega
  have e2 : IntKind.i64.wrap ((p : Int) + q - 60) = (p : Int) + q - 60 := by rw [IntKind.wrap_i64]; omega
  rw [e1, e2]
  congr 1
  rw [IntKind.wrap_i64]
  split <;> omega
theorem sum100 (r p q : Nat) (hp : p ≤ 140737488355328) (hq : q ≤ 140737488355328) (hr : (r : Int) ≤ 4611686018427387904) :
    Value.int .i64 (IntKind.i64.wrap ((r : Int) + if IntKind.i64.wrap (IntKind.i64.wrap ((p : Int) + q) - 100) < 0 then 0 else IntKind.i64.wrap (IntKind.i64.wrap ((p : Int) + q) - 100))) = Value.int .i64 ((r + (p + q - 100) : Nat) : Int) := by
  have e1 : IntKind.i64.wrap ((p : Int) + q) = (p : Int) + q := by rw [IntKind.wrap_i64]; omega
  have e2 : IntKind.i64.wrap ((p : Int) + q - 100) = (p : Int) + q - 100 := by rw [IntKind.wrap_i64]; omega
  rw [e1, e2]
  congr 1
  rw [IntKind.wrap_i64]
  split <;> omega
theorem qa60 (ts : Array TypeId) (t : TypeId) (W : World) (p q : Nat) : Sem.run Try.prog (Builtin.max_ ts t #[.int .i64 ((p : Int) + (q : Int) - 60), .int .i64 0]) W = .ok (.int .i64 ((p + q - 60 : Nat) : Int)) W := by rw [run_max_int2]; congr 2; split <;> omega
theorem qa100 (ts : Array TypeId) (t : TypeId) (W : World) (p q : Nat) : Sem.run Try.prog (Builtin.max_ ts t #[.int .i64 ((p : Int) + (q : Int) - 100), .int .i64 0]) W = .ok (.int .i64 ((p + q - 100 : Nat) : Int)) W := by rw [run_max_int2]; congr 2; split <;> omega
theorem all_more {Q : Nat → Prop} {k : Nat} (h : ∀ i, i < k → Q i) (hk : Q k) : ∀ i, i < k + 1 → Q i := fun i hi => by
  by_cases e : i = k
  · subst e; exact hk
  · exact h i (by omega)
set_option maxHeartbeats 8000000 in
set_option maxRecDepth 100000 in
theorem Great13_ok (x : Mt) (w : World) (hx : MtAt w x) (hb : MtBd x) : Calls Try.prog 7 #[.agg x.cells] w (MGr x w) := by
  obtain ⟨⟨A0, n0, c0⟩, X0, ⟨A1, n1, c1⟩, X1, ⟨A2, n2, c2⟩, X2, tab, ⟨A4, n4, c4⟩, X4, ⟨A5, n5, c5⟩, X5, ⟨A6, n6, c6⟩, X6, start, ⟨A8, n8, c8⟩, X8, ⟨A9, n9, c9⟩, X9⟩ := x
  have b0 := hb.n0
  have b1 := hb.n1
  have b2 := hb.n2
  have b4 := hb.n4
  have b5 := hb.n5
  have b6 := hb.n6
  have b8 := hb.n8
  have b9 := hb.n9
  have hb0 : Below w.heap.size w (w.alloc (.cells #[.slice A0 n0 c0, .slice A1 n1 c1, .slice A2 n2 c2, .int .i64 tab, .slice A4 n4 c4, .slice A5 n5 c5, .slice A6 n6 c6, .int .i64 start, .slice A8 n8 c8, .slice A9 n9 c9] 31)) := (Below.refl _ _).alloc (Nat.le_refl _) _
  have HX := Lib.hid (hx.below hb0)
  have d0 := hb.l0
  have d1 := hb.l1
  have d2 := hb.l2
  have d6 := hb.l6
  have d8 := hb.l8
  have d9 := hb.l9
  have HB0 := Lib.hid hb0
  have HD0 := Lib.hid d0
  have HD1 := Lib.hid d1
  have HD2 := Lib.hid d2
  have HD6 := Lib.hid d6
  have HD8 := Lib.hid d8
  have HD9 := Lib.hid d9
  have HBX : Hid (Blk (w.alloc (.cells #[.slice A0 n0 c0, .slice A1 n1 c1, .slice A2 n2 c2, .int .i64 tab, .slice A4 n4 c4, .slice A5 n5 c5, .slice A6 n6 c6, .int .i64 start, .slice A8 n8 c8, .slice A9 n9 c9] 31)) w.heap.size 31 #[.slice A0 n0 c0, .slice A1 n1 c1, .slice A2 n2 c2, .int .i64 tab, .slice A4 n4 c4, .slice A5 n5 c5, .slice A6 n6 c6, .int .i64 start, .slice A8 n8 c8, .slice A9 n9 c9]) := Lib.hid (Blk.new w 31 _)
  clear hx hb hb0 d0 d1 d2 d6 d8 d9
  unfold Mt.cells Sv.v
  dsimp only at b0 b1 b2 b4 b5 b6 b8 b9 HD0 HD1 HD2 HD6 HD8 HD9 ⊢
  go_enter Try.func7, Try.ntmps7
  go_upto_region 1 with fail
  obtain ⟨W0, hW0⟩ : ∃ W, W = w.alloc (.cells #[.slice A0 n0 c0, .slice A1 n1 c1, .slice A2 n2 c2, .int .i64 tab, .slice A4 n4 c4, .slice A5 n5 c5, .slice A6 n6 c6, .int .i64 start, .slice A8 n8 c8, .slice A9 n9 c9] 31) := ⟨_, rfl⟩
  rw [← hW0] at HX HB0 HBX ⊢
  have x0 := HBX.out.cell 0
  have x1 := HBX.out.cell 1
  have x2 := HBX.out.cell 2
  have x4 := HBX.out.cell 4
  have x5 := HBX.out.cell 5
  have x6 := HBX.out.cell 6
  have x8 := HBX.out.cell 8
  have x9 := HBX.out.cell 9
  have HS0 : Hid (w.heap.size + 1 ≤ W0.heap.size) := Lib.hid (by rw [hW0]; simp)
  clear hW0
  go_cut [3, 10, 11, 12, 13, 14, 15, 16, 17, 18, 19, 20, 21, 22, 23, 24, 25, 26, 27, 28, 29, 30, 31, 32, 33, 34, 35, 36, 37, 38, 39, 40, 41, 42, 43, 44, 45, 46, 47, 48, 49, 50, 51, 52, 53, 54, 55, 56] (fun s3 s10 s11 s12 s13 s14 s15 s16 s17 s18 s19 s20 s21 s22 s23 s24 s25 s26 s27 s28 s29 s30 s31 s32 s33 s34 s35 s36 s37 s38 s39 s40 s41 s42 s43 s44 s45 s46 s47 s48 s49 s50 s51 s52 s53 s54 s55 s56 wx => (∃ r : Nat, s3 = .int .i64 r ∧ Hid ((r : Int) ≤ 1125899906842624) ∧ Hid (r = 0 → n0 ≤ 60 ∧ n1 ≤ 25 ∧ n2 ≤ 110 ∧ n4 ≤ 8 ∧ n5 ≤ 60 ∧ n6 ≤ 60 ∧ n8 ≤ 25 ∧ n9 ≤ 25)) ∧ wx = W0)
  case first =>
    have f1 := fun ts t W => q60 ts t W n0
    have f2 := fun ts t W => q25 ts t W n1
    have f3 := fun ts t W => q110 ts t W n2
    have f4 := fun ts t W => q8 ts t W n4
    have f5 := fun ts t W => q60 ts t W n5
    have f6 := fun ts t W => q60 ts t W n6
    have f7 := fun ts t W => q25 ts t W n8
    have f8 := fun ts t W => q25 ts t W n9
    go_wp2_with fail
    clear f1 f2 f3 f4 f5 f6 f7 f8
    go_meet
    have t0 := Nat.sub_le n0 60
    have t1 := Nat.sub_le n1 25
    have t2 := Nat.sub_le n2 110
    have t4 := Nat.sub_le n4 8
    have t5 := Nat.sub_le n5 60
    have t6 := Nat.sub_le n6 60
    have t8 := Nat.sub_le n8 25
    have t9 := Nat.sub_le n9 25
    have hz : (n0 - 60) + (n1 - 25) + (n2 - 110) + (n4 - 8) + (n5 - 60) + (n6 - 60) + (n8 - 25) + (n9 - 25) = 0 → n0 ≤ 60 ∧ n1 ≤ 25 ∧ n2 ≤ 110 ∧ n4 ≤ 8 ∧ n5 ≤ 60 ∧ n6 ≤ 60 ∧ n8 ≤ 25 ∧ n9 ≤ 25 := by
      intro h
      simp only [Nat.add_eq_zero_iff, Nat.sub_eq_zero_iff_le] at h
      obtain ⟨⟨⟨⟨⟨⟨⟨h0, h1⟩, h2⟩, h4⟩, h5⟩, h6⟩, h8⟩, h9⟩ := h
      exact ⟨h0, h1, h2, h4, h5, h6, h8, h9⟩
    refine ⟨⟨(n0 - 60) + (n1 - 25) + (n2 - 110) + (n4 - 8) + (n5 - 60) + (n6 - 60) + (n8 - 25) + (n9 - 25), ?_, Lib.hid ?_, Lib.hid hz⟩, rfl⟩
    · clear hz t0 t1 t2 t4 t5 t6 t8 t9
      first | rfl | (congr 1; omega)
    · clear hz
      generalize n0 - 60 = a0 at t0 ⊢
      generalize n1 - 25 = a1 at t1 ⊢
      generalize n2 - 110 = a2 at t2 ⊢
      generalize n4 - 8 = a4 at t4 ⊢
      generalize n5 - 60 = a5 at t5 ⊢
      generalize n6 - 60 = a6 at t6 ⊢
      generalize n8 - 25 = a8 at t8 ⊢
      generalize n9 - 25 = a9 at t9 ⊢
      omega
  case rest =>
  obtain ⟨⟨r, hs3, HR, HG⟩, hw⟩ := hcut
  have hw := hw.symm
  subst hw
  subst hs3
  clear x0 x1 x2 x4 x5 x6 x8 x9
  have HB : Hid (Below W0.heap.size W0 W0) := Lib.hid (Below.refl _ _)
  rename_i ha
  refine ha _ _ ?_
  go_step
  go_cut [3, 4, 57, 58, 59, 60, 61, 62, 63, 64, 65, 66, 67, 68, 69, 70, 71, 72, 73, 74, 75, 76, 77, 78, 79, 80, 81, 82, 83, 84, 85, 86] (fun s3 s4 s57 s58 s59 s60 s61 s62 s63 s64 s65 s66 s67 s68 s69 s70 s71 s72 s73 s74 s75 s76 s77 s78 s79 s80 s81 s82 s83 s84 s85 s86 wx => ∃ r : Nat, s3 = .int .i64 r ∧ Hid ((r : Int) ≤ 18014398509481984) ∧ Hid (r = 0 → (n0 ≤ 60 ∧ n1 ≤ 25 ∧ n2 ≤ 110 ∧ n4 ≤ 8 ∧ n5 ≤ 60 ∧ n6 ≤ 60 ∧ n8 ≤ 25 ∧ n9 ≤ 25) ∧ ∀ i, i < n0 → (X0 i).P.length + (X0 i).R.length ≤ 60) ∧ Hid (Below W0.heap.size W0 wx))
  case first =>
    as_aux_lemma =>
    go_wp2
    go_loopw [3, 4] (fun v3 v4 wr => ∃ k r : Nat, k ≤ n0 ∧ k ≤ 60 ∧ v4 = .int .i64 k ∧ v3 = .int .i64 r ∧ Hid ((r : Int) ≤ 1125899906842624 + k * 281474976710656) ∧ Hid (r = 0 → (n0 ≤ 60 ∧ n1 ≤ 25 ∧ n2 ≤ 110 ∧ n4 ≤ 8 ∧ n5 ≤ 60 ∧ n6 ≤ 60 ∧ n8 ≤ 25 ∧ n9 ≤ 25) ∧ ∀ i, i < k → (X0 i).P.length + (X0 i).R.length ≤ 60) ∧ Hid (Below W0.heap.size W0 wr)) (fun _ v4 _ => n0 - (intOf v4).toNat)
    case atStart => exact ⟨0, r, Nat.zero_le _, Nat.zero_le _, rfl, rfl, Lib.hid (by have := HR.out; omega), Lib.hid (fun h => ⟨HG.out h, fun i hi => by omega⟩), HB⟩
    case round =>
      clear HR HG HB
      obtain ⟨k, r, hk, hk2, rfl, rfl, HR, HG, HB⟩ := hrel
      have hxb : Blk wr w.heap.size 31 _ := HBX.out.below HB.out HBX.out.lt
      have xb := hxb.cell 0
      clear hxb
      have hr9 : (r : Int) ≤ 18014398509481984 := by have := HR.out; omega
      by_cases hlt : k < n0
      · by_cases hlt2 : k < 60
        · obtain ⟨b, off, rfl, hbl, hat⟩ := ((HX.out.below HB.out).r0).2.2 (by show 0 < n0; omega)
          have ha := hat k hlt
          have hcn : n0 ≤ c0 := (HX.out.r0).1
          have hcm : c0 ≤ 9223372036854775807 := (HX.out.r0).2.1
          have hdd := HD0.out k hlt
          clear hat
          obtain ⟨A, c, B, d, y0, y1, _, _⟩ := ha
          obtain ⟨hp, hq⟩ := hdd
          generalize hpe : (X0 k).P.length = p at y0 hp
          generalize hqe : (X0 k).R.length = q at y1 hq
          have HPQ : Hid (p + q ≤ 60 → (X0 k).P.length + (X0 k).R.length ≤ 60) := Lib.hid (fun h => by rw [hpe, hqe]; omega)
          clear hpe hqe
          have fm := fun ts t W => qa60 ts t W p q
          have k0 : (fun W : World => W.cell? ⟨w.heap.size, 0, none⟩ = some (.slice (some ⟨b, off, none⟩) n0 c0) ∧ W.cell? ⟨b, off + k * 2, none⟩ = some (.slice A p c) ∧ W.cell? ⟨b, off + k * 2 + 1, none⟩ = some (.slice B q d)) wr.drew := ⟨xb, y0, y1⟩
          go_upto_region 5 with fail
          refine wp_region_held_drew (S := (fun W : World => W.cell? ⟨w.heap.size, 0, none⟩ = some (.slice (some ⟨b, off, none⟩) n0 c0) ∧ W.cell? ⟨b, off + k * 2, none⟩ = some (.slice A p c) ∧ W.cell? ⟨b, off + k * 2 + 1, none⟩ = some (.slice B q d))) (by kernel_rfl) k0 (fun hHeld => ?_)
          refine wpAnyH_take (i := 0) (oi := ?oi_1) (v := ?_) ?hi_1 (by kernel_rfl) ?hf_1 (by kernel_rfl) ?hQ_1 ?hy_1 (by assumption) ?_
          case hi_1 => simp only [List.getElem?_toArray, List.getElem?_cons_zero, List.getElem?_cons_succ]; rfl
          case hf_1 => kernel_rfl
          case hQ_1 => exact fun _ _ _ h => h
          case hy_1 =>
            refine Or.inl ⟨by rfl, ?_⟩
            intro W hSw
            obtain ⟨q0, q1, q2⟩ := hSw
            go_simp
            try with_reducible rfl
          try simp only [Act.put, List.setIfInBounds_toArray, List.set_cons_zero, List.set_cons_succ]
          refine wpAnyH_take (i := 1) (oi := ?oi_2) (v := ?_) ?hi_2 (by kernel_rfl) ?hf_2 (by kernel_rfl) ?hQ_2 ?hy_2 (by assumption) ?_
          case hi_2 => simp only [List.getElem?_toArray, List.getElem?_cons_zero, List.getElem?_cons_succ]; rfl
          case hf_2 => kernel_rfl
          case hQ_2 => exact fun _ _ _ h => h
          case hy_2 =>
            refine Or.inl ⟨by rfl, ?_⟩
            intro W hSw
            obtain ⟨q0, q1, q2⟩ := hSw
            go_simp
            try with_reducible rfl
          try simp only [Act.put, List.setIfInBounds_toArray, List.set_cons_zero, List.set_cons_succ]
          refine wpAnyH_take (i := 2) (oi := ?oi_3) (v := ?_) ?hi_3 (by kernel_rfl) ?hf_3 (by kernel_rfl) ?hQ_3 ?hy_3 (by assumption) ?_
          case hi_3 => simp only [List.getElem?_toArray, List.getElem?_cons_zero, List.getElem?_cons_succ]; rfl
          case hf_3 => kernel_rfl
          case hQ_3 => exact fun _ _ _ h => h
          case hy_3 =>
            refine Or.inl ⟨by rfl, ?_⟩
            intro W hSw
            obtain ⟨q0, q1, q2⟩ := hSw
            go_simp
            try with_reducible rfl
          try simp only [Act.put, List.setIfInBounds_toArray, List.set_cons_zero, List.set_cons_succ]
          refine wpAnyH_take (i := 3) (oi := ?oi_4) (v := ?_) ?hi_4 (by kernel_rfl) ?hf_4 (by kernel_rfl) ?hQ_4 ?hy_4 (by assumption) ?_
          case hi_4 => simp only [List.getElem?_toArray, List.getElem?_cons_zero, List.getElem?_cons_succ]; rfl
          case hf_4 => kernel_rfl
          case hQ_4 => exact fun _ _ _ h => h
          case hy_4 =>
            refine Or.inl ⟨by rfl, ?_⟩
            intro W hSw
            obtain ⟨q0, q1, q2⟩ := hSw
            go_simp
            try with_reducible rfl
          try simp only [Act.put, List.setIfInBounds_toArray, List.set_cons_zero, List.set_cons_succ]
          refine wpAnyH_take (i := 4) (oi := ?oi_5) (v := ?_) ?hi_5 (by kernel_rfl) ?hf_5 (by kernel_rfl) ?hQ_5 ?hy_5 (by assumption) ?_
          case hi_5 => simp only [List.getElem?_toArray, List.getElem?_cons_zero, List.getElem?_cons_succ]; rfl
          case hf_5 => kernel_rfl
          case hQ_5 => exact fun _ _ _ h => h
          case hy_5 =>
            refine Or.inl ⟨by rfl, ?_⟩
            intro W hSw
            obtain ⟨q0, q1, q2⟩ := hSw
            go_simp
            try with_reducible rfl
          try simp only [Act.put, List.setIfInBounds_toArray, List.set_cons_zero, List.set_cons_succ]
          refine wpAnyH_take (i := 5) (oi := ?oi_6) (v := ?_) ?hi_6 (by kernel_rfl) ?hf_6 (by kernel_rfl) ?hQ_6 ?hy_6 (by assumption) ?_
          case hi_6 => simp only [List.getElem?_toArray, List.getElem?_cons_zero, List.getElem?_cons_succ]; rfl
          case hf_6 => kernel_rfl
          case hQ_6 => exact fun _ _ _ h => h
          case hy_6 =>
            refine Or.inl ⟨by rfl, ?_⟩
            intro W hSw
            obtain ⟨q0, q1, q2⟩ := hSw
            go_simp
            try with_reducible rfl
          try simp only [Act.put, List.setIfInBounds_toArray, List.set_cons_zero, List.set_cons_succ]
          refine wpAnyH_take (i := 6) (oi := ?oi_7) (v := ?_) ?hi_7 (by kernel_rfl) ?hf_7 (by kernel_rfl) ?hQ_7 ?hy_7 (by assumption) ?_
          case hi_7 => simp only [List.getElem?_toArray, List.getElem?_cons_zero, List.getElem?_cons_succ]; rfl
          case hf_7 => kernel_rfl
          case hQ_7 => exact fun _ _ _ h => h
          case hy_7 =>
            refine Or.inl ⟨by rfl, ?_⟩
            intro W hSw
            obtain ⟨q0, q1, q2⟩ := hSw
            go_simp
            try with_reducible rfl
          try simp only [Act.put, List.setIfInBounds_toArray, List.set_cons_zero, List.set_cons_succ]
          refine wpAnyH_take (i := 7) (oi := ?oi_8) (v := ?_) ?hi_8 (by kernel_rfl) ?hf_8 (by kernel_rfl) ?hQ_8 ?hy_8 (by assumption) ?_
          case hi_8 => simp only [List.getElem?_toArray, List.getElem?_cons_zero, List.getElem?_cons_succ]; rfl
          case hf_8 => kernel_rfl
          case hQ_8 => exact fun _ _ _ h => h
          case hy_8 =>
            refine Or.inl ⟨by rfl, ?_⟩
            intro W hSw
            obtain ⟨q0, q1, q2⟩ := hSw
            go_simp
            try with_reducible rfl
          try simp only [Act.put, List.setIfInBounds_toArray, List.set_cons_zero, List.set_cons_succ]
          refine wpAnyH_take (i := 8) (oi := ?oi_9) (v := ?_) ?hi_9 (by kernel_rfl) ?hf_9 (by kernel_rfl) ?hQ_9 ?hy_9 (by assumption) ?_
          case hi_9 => simp only [List.getElem?_toArray, List.getElem?_cons_zero, List.getElem?_cons_succ]; rfl
          case hf_9 => kernel_rfl
          case hQ_9 => exact fun _ _ _ h => h
          case hy_9 =>
            refine Or.inl ⟨by rfl, ?_⟩
            intro W hSw
            obtain ⟨q0, q1, q2⟩ := hSw
            go_simp
            try with_reducible rfl
          try simp only [Act.put, List.setIfInBounds_toArray, List.set_cons_zero, List.set_cons_succ]
          refine wpAnyH_take (i := 9) (oi := ?oi_10) (v := ?_) ?hi_10 (by kernel_rfl) ?hf_10 (by kernel_rfl) ?hQ_10 ?hy_10 (by assumption) ?_
          case hi_10 => simp only [List.getElem?_toArray, List.getElem?_cons_zero, List.getElem?_cons_succ]; rfl
          case hf_10 => kernel_rfl
          case hQ_10 => exact fun _ _ _ h => h
          case hy_10 =>
            refine Or.inl ⟨by rfl, ?_⟩
            intro W hSw
            obtain ⟨q0, q1, q2⟩ := hSw
            go_simp
            try with_reducible rfl
          try simp only [Act.put, List.setIfInBounds_toArray, List.set_cons_zero, List.set_cons_succ]
          refine wpAnyH_take (i := 10) (oi := ?oi_11) (v := ?_) ?hi_11 (by kernel_rfl) ?hf_11 (by kernel_rfl) ?hQ_11 ?hy_11 (by assumption) ?_
          case hi_11 => simp only [List.getElem?_toArray, List.getElem?_cons_zero, List.getElem?_cons_succ]; rfl
          case hf_11 => kernel_rfl
          case hQ_11 => exact fun _ _ _ h => h
          case hy_11 =>
            refine Or.inl ⟨by rfl, ?_⟩
            intro W hSw
            obtain ⟨q0, q1, q2⟩ := hSw
            go_simp
            try with_reducible rfl
          try simp only [Act.put, List.setIfInBounds_toArray, List.set_cons_zero, List.set_cons_succ]
          refine wpAnyH_take (i := 11) (oi := ?oi_12) (v := ?_) ?hi_12 (by kernel_rfl) ?hf_12 (by kernel_rfl) ?hQ_12 ?hy_12 (by assumption) ?_
          case hi_12 => simp only [List.getElem?_toArray, List.getElem?_cons_zero, List.getElem?_cons_succ]; rfl
          case hf_12 => kernel_rfl
          case hQ_12 => exact fun _ _ _ h => h
          case hy_12 =>
            refine Or.inl ⟨by rfl, ?_⟩
            intro W hSw
            obtain ⟨q0, q1, q2⟩ := hSw
            go_simp
            try with_reducible rfl
          try simp only [Act.put, List.setIfInBounds_toArray, List.set_cons_zero, List.set_cons_succ]
          refine wpAnyH_take (i := 12) (oi := ?oi_13) (v := ?_) ?hi_13 (by kernel_rfl) ?hf_13 (by kernel_rfl) ?hQ_13 ?hy_13 (by assumption) ?_
          case hi_13 => simp only [List.getElem?_toArray, List.getElem?_cons_zero, List.getElem?_cons_succ]; rfl
          case hf_13 => kernel_rfl
          case hQ_13 => exact fun _ _ _ h => h
          case hy_13 =>
            refine Or.inl ⟨by rfl, ?_⟩
            intro W hSw
            obtain ⟨q0, q1, q2⟩ := hSw
            go_simp
            try with_reducible rfl
          try simp only [Act.put, List.setIfInBounds_toArray, List.set_cons_zero, List.set_cons_succ]
          refine wpAnyH_take (i := 13) (oi := ?oi_14) (v := ?_) ?hi_14 (by kernel_rfl) ?hf_14 (by kernel_rfl) ?hQ_14 ?hy_14 (by assumption) ?_
          case hi_14 => simp only [List.getElem?_toArray, List.getElem?_cons_zero, List.getElem?_cons_succ]; rfl
          case hf_14 => kernel_rfl
          case hQ_14 => exact fun _ _ _ h => h
          case hy_14 =>
            refine Or.inl ⟨by rfl, ?_⟩
            intro W hSw
            obtain ⟨q0, q1, q2⟩ := hSw
            go_simp
            try with_reducible rfl
          try simp only [Act.put, List.setIfInBounds_toArray, List.set_cons_zero, List.set_cons_succ]
          refine wpAnyH_take (i := 14) (oi := ?oi_15) (v := ?_) ?hi_15 (by kernel_rfl) ?hf_15 (by kernel_rfl) ?hQ_15 ?hy_15 (by assumption) ?_
          case hi_15 => simp only [List.getElem?_toArray, List.getElem?_cons_zero, List.getElem?_cons_succ]; rfl
          case hf_15 => kernel_rfl
          case hQ_15 => exact fun _ _ _ h => h
          case hy_15 =>
            refine Or.inl ⟨by rfl, ?_⟩
            intro W hSw
            obtain ⟨q0, q1, q2⟩ := hSw
            go_simp
            try with_reducible rfl
          try simp only [Act.put, List.setIfInBounds_toArray, List.set_cons_zero, List.set_cons_succ]
          refine wpAnyH_take (i := 15) (oi := ?oi_16) (v := ?_) ?hi_16 (by kernel_rfl) ?hf_16 (by kernel_rfl) ?hQ_16 ?hy_16 (by assumption) ?_
          case hi_16 => simp only [List.getElem?_toArray, List.getElem?_cons_zero, List.getElem?_cons_succ]; rfl
          case hf_16 => kernel_rfl
          case hQ_16 => exact fun _ _ _ h => h
          case hy_16 =>
            refine Or.inl ⟨by rfl, ?_⟩
            intro W hSw
            obtain ⟨q0, q1, q2⟩ := hSw
            go_simp
            try with_reducible rfl
          try simp only [Act.put, List.setIfInBounds_toArray, List.set_cons_zero, List.set_cons_succ]
          refine wpAnyH_take (i := 16) (oi := ?oi_17) (v := ?_) ?hi_17 (by kernel_rfl) ?hf_17 (by kernel_rfl) ?hQ_17 ?hy_17 (by assumption) ?_
          case hi_17 => simp only [List.getElem?_toArray, List.getElem?_cons_zero, List.getElem?_cons_succ]; rfl
          case hf_17 => kernel_rfl
          case hQ_17 => exact fun _ _ _ h => h
          case hy_17 =>
            refine Or.inl ⟨by rfl, ?_⟩
            intro W hSw
            obtain ⟨q0, q1, q2⟩ := hSw
            go_simp
            try with_reducible rfl
          try simp only [Act.put, List.setIfInBounds_toArray, List.set_cons_zero, List.set_cons_succ]
          refine wpAnyH_take (i := 17) (oi := ?oi_18) (v := ?_) ?hi_18 (by kernel_rfl) ?hf_18 (by kernel_rfl) ?hQ_18 ?hy_18 (by assumption) ?_
          case hi_18 => simp only [List.getElem?_toArray, List.getElem?_cons_zero, List.getElem?_cons_succ]; rfl
          case hf_18 => kernel_rfl
          case hQ_18 => exact fun _ _ _ h => h
          case hy_18 =>
            refine Or.inl ⟨by rfl, ?_⟩
            intro W hSw
            obtain ⟨q0, q1, q2⟩ := hSw
            go_simp
            try with_reducible rfl
          try simp only [Act.put, List.setIfInBounds_toArray, List.set_cons_zero, List.set_cons_succ]
          refine wpAnyH_take (i := 18) (oi := ?oi_19) (v := ?_) ?hi_19 (by kernel_rfl) ?hf_19 (by kernel_rfl) ?hQ_19 ?hy_19 (by assumption) ?_
          case hi_19 => simp only [List.getElem?_toArray, List.getElem?_cons_zero, List.getElem?_cons_succ]; rfl
          case hf_19 => kernel_rfl
          case hQ_19 => exact fun _ _ _ h => h
          case hy_19 =>
            refine Or.inl ⟨by rfl, ?_⟩
            intro W hSw
            obtain ⟨q0, q1, q2⟩ := hSw
            go_simp
            try with_reducible rfl
          try simp only [Act.put, List.setIfInBounds_toArray, List.set_cons_zero, List.set_cons_succ]
          refine wpAnyH_take (i := 19) (oi := ?oi_20) (v := ?_) ?hi_20 (by kernel_rfl) ?hf_20 (by kernel_rfl) ?hQ_20 ?hy_20 (by assumption) ?_
          case hi_20 => simp only [List.getElem?_toArray, List.getElem?_cons_zero, List.getElem?_cons_succ]; rfl
          case hf_20 => kernel_rfl
          case hQ_20 => exact fun _ _ _ h => h
          case hy_20 =>
            refine Or.inl ⟨by rfl, ?_⟩
            intro W hSw
            obtain ⟨q0, q1, q2⟩ := hSw
            go_simp
            try with_reducible rfl
          try simp only [Act.put, List.setIfInBounds_toArray, List.set_cons_zero, List.set_cons_succ]
          refine wpAnyH_done (by kernel_rfl) ?_ _
          clear hHeld k0
          go_wp2
          clear fm
          go_roundw
          case rel => exact ⟨k + 1, r + (p + q - 60), by omega, by omega, by go_num, by exact sum60 r _ _ hp hq (by omega), Lib.hid (by have := HR.out; omega), Lib.hid (fun h => ⟨(HG.out (by omega)).1, all_more (HG.out (by omega)).2 (HPQ.out (by omega))⟩), Lib.hid (below_drew HB.out)⟩
          case measure => simp [intOf]; omega
        · have e0 : k = 60 := by omega
          subst e0
          go_wp2
          go_meet
          exact ⟨r, rfl, Lib.hid hr9, Lib.hid (fun h => absurd hlt (by have := (HG.out h).1; omega)), HB⟩
      · have e0 : n0 = k := by omega
        subst e0
        go_wp2
        go_meet
        exact ⟨r, rfl, Lib.hid hr9, Lib.hid (fun h => HG.out h), HB⟩
  case rest =>
  clear HR HG HB
  obtain ⟨r, hs3, HR, HG, HB⟩ := hcut
  subst hs3
  rename_i ha
  refine ha _ _ ?_
  go_step
  go_cut [3, 5, 87, 88, 89, 90, 91, 92, 93, 94, 95, 96, 97, 98, 99, 100, 101, 102, 103, 104, 105, 106, 107, 108, 109, 110, 111, 112, 113, 114, 115, 116] (fun s3 s5 s87 s88 s89 s90 s91 s92 s93 s94 s95 s96 s97 s98 s99 s100 s101 s102 s103 s104 s105 s106 s107 s108 s109 s110 s111 s112 s113 s114 s115 s116 wx => ∃ r : Nat, s3 = .int .i64 r ∧ Hid ((r : Int) ≤ 25051272927248384) ∧ Hid (r = 0 → ((n0 ≤ 60 ∧ n1 ≤ 25 ∧ n2 ≤ 110 ∧ n4 ≤ 8 ∧ n5 ≤ 60 ∧ n6 ≤ 60 ∧ n8 ≤ 25 ∧ n9 ≤ 25) ∧ ∀ i, i < n0 → (X0 i).P.length + (X0 i).R.length ≤ 60) ∧ ∀ i, i < n1 → (X1 i).mo.size + (X1 i).nm.size ≤ 100) ∧ Hid (Below W0.heap.size W0 wx))
  case first =>
    as_aux_lemma =>
    go_wp2
    go_loopw [3, 5] (fun v3 v5 wr => ∃ k r : Nat, k ≤ n1 ∧ k ≤ 25 ∧ v5 = .int .i64 k ∧ v3 = .int .i64 r ∧ Hid ((r : Int) ≤ 18014398509481984 + k * 281474976710656) ∧ Hid (r = 0 → ((n0 ≤ 60 ∧ n1 ≤ 25 ∧ n2 ≤ 110 ∧ n4 ≤ 8 ∧ n5 ≤ 60 ∧ n6 ≤ 60 ∧ n8 ≤ 25 ∧ n9 ≤ 25) ∧ ∀ i, i < n0 → (X0 i).P.length + (X0 i).R.length ≤ 60) ∧ ∀ i, i < k → (X1 i).mo.size + (X1 i).nm.size ≤ 100) ∧ Hid (Below W0.heap.size W0 wr)) (fun _ v5 _ => n1 - (intOf v5).toNat)
    case atStart => exact ⟨0, r, Nat.zero_le _, Nat.zero_le _, rfl, rfl, Lib.hid (by have := HR.out; omega), Lib.hid (fun h => ⟨HG.out h, fun i hi => by omega⟩), HB⟩
    case round =>
      clear HR HG HB
      obtain ⟨k, r, hk, hk2, rfl, rfl, HR, HG, HB⟩ := hrel
      have hxb : Blk wr w.heap.size 31 _ := HBX.out.below HB.out HBX.out.lt
      have xb := hxb.cell 1
      clear hxb
      have hr9 : (r : Int) ≤ 25051272927248384 := by have := HR.out; omega
      by_cases hlt : k < n1
      · by_cases hlt2 : k < 25
        · obtain ⟨b, off, rfl, hbl, hat⟩ := ((HX.out.below HB.out).r1).2.2 (by show 0 < n1; omega)
          have ha := hat k hlt
          have hcn : n1 ≤ c1 := (HX.out.r1).1
          have hcm : c1 ≤ 9223372036854775807 := (HX.out.r1).2.1
          have hdd := HD1.out k hlt
          clear hat
          obtain ⟨y0, y1, _⟩ := ha
          obtain ⟨hp, hq⟩ := hdd
          generalize hs1 : (X1 k).mo = s1 at y0 hp
          generalize hs2 : (X1 k).nm = s2 at y1 hq
          obtain ⟨p, hpe⟩ : ∃ p, p = s1.size := ⟨_, rfl⟩
          obtain ⟨q, hqe⟩ : ∃ q, q = s2.size := ⟨_, rfl⟩
          rw [← hpe] at hp
          rw [← hqe] at hq
          have HPQ : Hid (p + q ≤ 100 → (X1 k).mo.size + (X1 k).nm.size ≤ 100) := Lib.hid (fun h => by rw [hs1, hs2, ← hpe, ← hqe]; omega)
          clear hs1 hs2
          have fm := fun ts t W => qa100 ts t W p q
          have k0 : (fun W : World => W.cell? ⟨w.heap.size, 1, none⟩ = some (.slice (some ⟨b, off, none⟩) n1 c1) ∧ W.cell? ⟨b, off + k * 3, none⟩ = some (.string s1) ∧ W.cell? ⟨b, off + k * 3 + 1, none⟩ = some (.string s2)) wr.drew := ⟨xb, y0, y1⟩
          go_upto_region 9 with fail
          refine wp_region_held_drew (S := (fun W : World => W.cell? ⟨w.heap.size, 1, none⟩ = some (.slice (some ⟨b, off, none⟩) n1 c1) ∧ W.cell? ⟨b, off + k * 3, none⟩ = some (.string s1) ∧ W.cell? ⟨b, off + k * 3 + 1, none⟩ = some (.string s2))) (by kernel_rfl) k0 (fun hHeld => ?_)
          refine wpAnyH_take (i := 0) (oi := ?oi_21) (v := ?_) ?hi_21 (by kernel_rfl) ?hf_21 (by kernel_rfl) ?hQ_21 ?hy_21 (by assumption) ?_
          case hi_21 => simp only [List.getElem?_toArray, List.getElem?_cons_zero, List.getElem?_cons_succ]; rfl
          case hf_21 => kernel_rfl
          case hQ_21 => exact fun _ _ _ h => h
          case hy_21 =>
            refine Or.inl ⟨by rfl, ?_⟩
            intro W hSw
            obtain ⟨q0, q1, q2⟩ := hSw
            go_simp
            try with_reducible rfl
          try simp only [Act.put, List.setIfInBounds_toArray, List.set_cons_zero, List.set_cons_succ]
          refine wpAnyH_take (i := 1) (oi := ?oi_22) (v := ?_) ?hi_22 (by kernel_rfl) ?hf_22 (by kernel_rfl) ?hQ_22 ?hy_22 (by assumption) ?_
          case hi_22 => simp only [List.getElem?_toArray, List.getElem?_cons_zero, List.getElem?_cons_succ]; rfl
          case hf_22 => kernel_rfl
          case hQ_22 => exact fun _ _ _ h => h
          case hy_22 =>
            refine Or.inl ⟨by rfl, ?_⟩
            intro W hSw
            obtain ⟨q0, q1, q2⟩ := hSw
            go_simp
            try with_reducible rfl
          try simp only [Act.put, List.setIfInBounds_toArray, List.set_cons_zero, List.set_cons_succ]
          refine wpAnyH_take (i := 2) (oi := ?oi_23) (v := ?_) ?hi_23 (by kernel_rfl) ?hf_23 (by kernel_rfl) ?hQ_23 ?hy_23 (by assumption) ?_
          case hi_23 => simp only [List.getElem?_toArray, List.getElem?_cons_zero, List.getElem?_cons_succ]; rfl
          case hf_23 => kernel_rfl
          case hQ_23 => exact fun _ _ _ h => h
          case hy_23 =>
            refine Or.inl ⟨by rfl, ?_⟩
            intro W hSw
            obtain ⟨q0, q1, q2⟩ := hSw
            go_simp
            try with_reducible rfl
          try simp only [Act.put, List.setIfInBounds_toArray, List.set_cons_zero, List.set_cons_succ]
          refine wpAnyH_take (i := 3) (oi := ?oi_24) (v := ?_) ?hi_24 (by kernel_rfl) ?hf_24 (by kernel_rfl) ?hQ_24 ?hy_24 (by assumption) ?_
          case hi_24 => simp only [List.getElem?_toArray, List.getElem?_cons_zero, List.getElem?_cons_succ]; rfl
          case hf_24 => kernel_rfl
          case hQ_24 => exact fun _ _ _ h => h
          case hy_24 =>
            refine Or.inl ⟨by rfl, ?_⟩
            intro W hSw
            obtain ⟨q0, q1, q2⟩ := hSw
            go_simp
            try with_reducible rfl
          try simp only [Act.put, List.setIfInBounds_toArray, List.set_cons_zero, List.set_cons_succ]
          refine wpAnyH_take (i := 4) (oi := ?oi_25) (v := ?_) ?hi_25 (by kernel_rfl) ?hf_25 (by kernel_rfl) ?hQ_25 ?hy_25 (by assumption) ?_
          case hi_25 => simp only [List.getElem?_toArray, List.getElem?_cons_zero, List.getElem?_cons_succ]; rfl
          case hf_25 => kernel_rfl
          case hQ_25 => exact fun _ _ _ h => h
          case hy_25 =>
            refine Or.inl ⟨by rfl, ?_⟩
            intro W hSw
            obtain ⟨q0, q1, q2⟩ := hSw
            go_simp
            try with_reducible rfl
          try simp only [Act.put, List.setIfInBounds_toArray, List.set_cons_zero, List.set_cons_succ]
          refine wpAnyH_take (i := 5) (oi := ?oi_26) (v := ?_) ?hi_26 (by kernel_rfl) ?hf_26 (by kernel_rfl) ?hQ_26 ?hy_26 (by assumption) ?_
          case hi_26 => simp only [List.getElem?_toArray, List.getElem?_cons_zero, List.getElem?_cons_succ]; rfl
          case hf_26 => kernel_rfl
          case hQ_26 => exact fun _ _ _ h => h
          case hy_26 =>
            refine Or.inl ⟨by rfl, ?_⟩
            intro W hSw
            obtain ⟨q0, q1, q2⟩ := hSw
            go_simp
            try with_reducible rfl
          try simp only [Act.put, List.setIfInBounds_toArray, List.set_cons_zero, List.set_cons_succ]
          refine wpAnyH_take (i := 6) (oi := ?oi_27) (v := ?_) ?hi_27 (by kernel_rfl) ?hf_27 (by kernel_rfl) ?hQ_27 ?hy_27 (by assumption) ?_
          case hi_27 => simp only [List.getElem?_toArray, List.getElem?_cons_zero, List.getElem?_cons_succ]; rfl
          case hf_27 => kernel_rfl
          case hQ_27 => exact fun _ _ _ h => h
          case hy_27 =>
            refine Or.inl ⟨by rfl, ?_⟩
            intro W hSw
            obtain ⟨q0, q1, q2⟩ := hSw
            go_simp
            try with_reducible rfl
          try simp only [Act.put, List.setIfInBounds_toArray, List.set_cons_zero, List.set_cons_succ]
          refine wpAnyH_take (i := 7) (oi := ?oi_28) (v := ?_) ?hi_28 (by kernel_rfl) ?hf_28 (by kernel_rfl) ?hQ_28 ?hy_28 (by assumption) ?_
          case hi_28 => simp only [List.getElem?_toArray, List.getElem?_cons_zero, List.getElem?_cons_succ]; rfl
          case hf_28 => kernel_rfl
          case hQ_28 => exact fun _ _ _ h => h
          case hy_28 =>
            refine Or.inl ⟨by rfl, ?_⟩
            intro W hSw
            obtain ⟨q0, q1, q2⟩ := hSw
            go_simp
            try with_reducible rfl
          try simp only [Act.put, List.setIfInBounds_toArray, List.set_cons_zero, List.set_cons_succ]
          refine wpAnyH_take (i := 8) (oi := ?oi_29) (v := ?_) ?hi_29 (by kernel_rfl) ?hf_29 (by kernel_rfl) ?hQ_29 ?hy_29 (by assumption) ?_
          case hi_29 => simp only [List.getElem?_toArray, List.getElem?_cons_zero, List.getElem?_cons_succ]; rfl
          case hf_29 => kernel_rfl
          case hQ_29 => exact fun _ _ _ h => h
          case hy_29 =>
            refine Or.inl ⟨by rfl, ?_⟩
            intro W hSw
            obtain ⟨q0, q1, q2⟩ := hSw
            go_simp
            try with_reducible rfl
          try simp only [Act.put, List.setIfInBounds_toArray, List.set_cons_zero, List.set_cons_succ]
          refine wpAnyH_take (i := 9) (oi := ?oi_30) (v := ?_) ?hi_30 (by kernel_rfl) ?hf_30 (by kernel_rfl) ?hQ_30 ?hy_30 (by assumption) ?_
          case hi_30 => simp only [List.getElem?_toArray, List.getElem?_cons_zero, List.getElem?_cons_succ]; rfl
          case hf_30 => kernel_rfl
          case hQ_30 => exact fun _ _ _ h => h
          case hy_30 =>
            refine Or.inl ⟨by rfl, ?_⟩
            intro W hSw
            obtain ⟨q0, q1, q2⟩ := hSw
            go_simp
            try with_reducible rfl
          try simp only [Act.put, List.setIfInBounds_toArray, List.set_cons_zero, List.set_cons_succ]
          refine wpAnyH_take (i := 10) (oi := ?oi_31) (v := ?_) ?hi_31 (by kernel_rfl) ?hf_31 (by kernel_rfl) ?hQ_31 ?hy_31 (by assumption) ?_
          case hi_31 => simp only [List.getElem?_toArray, List.getElem?_cons_zero, List.getElem?_cons_succ]; rfl
          case hf_31 => kernel_rfl
          case hQ_31 => exact fun _ _ _ h => h
          case hy_31 =>
            refine Or.inl ⟨by rfl, ?_⟩
            intro W hSw
            obtain ⟨q0, q1, q2⟩ := hSw
            go_simp
            try with_reducible rfl
          try simp only [Act.put, List.setIfInBounds_toArray, List.set_cons_zero, List.set_cons_succ]
          refine wpAnyH_take (i := 11) (oi := ?oi_32) (v := ?_) ?hi_32 (by kernel_rfl) ?hf_32 (by kernel_rfl) ?hQ_32 ?hy_32 (by assumption) ?_
          case hi_32 => simp only [List.getElem?_toArray, List.getElem?_cons_zero, List.getElem?_cons_succ]; rfl
          case hf_32 => kernel_rfl
          case hQ_32 => exact fun _ _ _ h => h
          case hy_32 =>
            refine Or.inl ⟨by rfl, ?_⟩
            intro W hSw
            obtain ⟨q0, q1, q2⟩ := hSw
            go_simp
            try with_reducible rfl
          try simp only [Act.put, List.setIfInBounds_toArray, List.set_cons_zero, List.set_cons_succ]
          refine wpAnyH_take (i := 12) (oi := ?oi_33) (v := ?_) ?hi_33 (by kernel_rfl) ?hf_33 (by kernel_rfl) ?hQ_33 ?hy_33 (by assumption) ?_
          case hi_33 => simp only [List.getElem?_toArray, List.getElem?_cons_zero, List.getElem?_cons_succ]; rfl
          case hf_33 => kernel_rfl
          case hQ_33 => exact fun _ _ _ h => h
          case hy_33 =>
            refine Or.inl ⟨by rfl, ?_⟩
            intro W hSw
            obtain ⟨q0, q1, q2⟩ := hSw
            go_simp
            try with_reducible rfl
          try simp only [Act.put, List.setIfInBounds_toArray, List.set_cons_zero, List.set_cons_succ]
          refine wpAnyH_take (i := 13) (oi := ?oi_34) (v := ?_) ?hi_34 (by kernel_rfl) ?hf_34 (by kernel_rfl) ?hQ_34 ?hy_34 (by assumption) ?_
          case hi_34 => simp only [List.getElem?_toArray, List.getElem?_cons_zero, List.getElem?_cons_succ]; rfl
          case hf_34 => kernel_rfl
          case hQ_34 => exact fun _ _ _ h => h
          case hy_34 =>
            refine Or.inl ⟨by rfl, ?_⟩
            intro W hSw
            obtain ⟨q0, q1, q2⟩ := hSw
            go_simp
            try with_reducible rfl
          try simp only [Act.put, List.setIfInBounds_toArray, List.set_cons_zero, List.set_cons_succ]
          refine wpAnyH_take (i := 14) (oi := ?oi_35) (v := ?_) ?hi_35 (by kernel_rfl) ?hf_35 (by kernel_rfl) ?hQ_35 ?hy_35 (by assumption) ?_
          case hi_35 => simp only [List.getElem?_toArray, List.getElem?_cons_zero, List.getElem?_cons_succ]; rfl
          case hf_35 => kernel_rfl
          case hQ_35 => exact fun _ _ _ h => h
          case hy_35 =>
            refine Or.inl ⟨by rfl, ?_⟩
            intro W hSw
            obtain ⟨q0, q1, q2⟩ := hSw
            go_simp
            try with_reducible rfl
          try simp only [Act.put, List.setIfInBounds_toArray, List.set_cons_zero, List.set_cons_succ]
          refine wpAnyH_take (i := 15) (oi := ?oi_36) (v := ?_) ?hi_36 (by kernel_rfl) ?hf_36 (by kernel_rfl) ?hQ_36 ?hy_36 (by assumption) ?_
          case hi_36 => simp only [List.getElem?_toArray, List.getElem?_cons_zero, List.getElem?_cons_succ]; rfl
          case hf_36 => kernel_rfl
          case hQ_36 => exact fun _ _ _ h => h
          case hy_36 =>
            refine Or.inl ⟨by rfl, ?_⟩
            intro W hSw
            obtain ⟨q0, q1, q2⟩ := hSw
            go_simp
            try with_reducible rfl
          try simp only [Act.put, List.setIfInBounds_toArray, List.set_cons_zero, List.set_cons_succ]
          refine wpAnyH_take (i := 16) (oi := ?oi_37) (v := ?_) ?hi_37 (by kernel_rfl) ?hf_37 (by kernel_rfl) ?hQ_37 ?hy_37 (by assumption) ?_
          case hi_37 => simp only [List.getElem?_toArray, List.getElem?_cons_zero, List.getElem?_cons_succ]; rfl
          case hf_37 => kernel_rfl
          case hQ_37 => exact fun _ _ _ h => h
          case hy_37 =>
            refine Or.inl ⟨by rfl, ?_⟩
            intro W hSw
            obtain ⟨q0, q1, q2⟩ := hSw
            go_simp
            try with_reducible rfl
          try simp only [Act.put, List.setIfInBounds_toArray, List.set_cons_zero, List.set_cons_succ]
          refine wpAnyH_take (i := 17) (oi := ?oi_38) (v := ?_) ?hi_38 (by kernel_rfl) ?hf_38 (by kernel_rfl) ?hQ_38 ?hy_38 (by assumption) ?_
          case hi_38 => simp only [List.getElem?_toArray, List.getElem?_cons_zero, List.getElem?_cons_succ]; rfl
          case hf_38 => kernel_rfl
          case hQ_38 => exact fun _ _ _ h => h
          case hy_38 =>
            refine Or.inl ⟨by rfl, ?_⟩
            intro W hSw
            obtain ⟨q0, q1, q2⟩ := hSw
            go_simp
            try with_reducible rfl
          try simp only [Act.put, List.setIfInBounds_toArray, List.set_cons_zero, List.set_cons_succ]
          refine wpAnyH_take (i := 18) (oi := ?oi_39) (v := ?_) ?hi_39 (by kernel_rfl) ?hf_39 (by kernel_rfl) ?hQ_39 ?hy_39 (by assumption) ?_
          case hi_39 => simp only [List.getElem?_toArray, List.getElem?_cons_zero, List.getElem?_cons_succ]; rfl
          case hf_39 => kernel_rfl
          case hQ_39 => exact fun _ _ _ h => h
          case hy_39 =>
            refine Or.inl ⟨by rfl, ?_⟩
            intro W hSw
            obtain ⟨q0, q1, q2⟩ := hSw
            go_simp
            try with_reducible rfl
          try simp only [Act.put, List.setIfInBounds_toArray, List.set_cons_zero, List.set_cons_succ]
          refine wpAnyH_take (i := 19) (oi := ?oi_40) (v := ?_) ?hi_40 (by kernel_rfl) ?hf_40 (by kernel_rfl) ?hQ_40 ?hy_40 (by assumption) ?_
          case hi_40 => simp only [List.getElem?_toArray, List.getElem?_cons_zero, List.getElem?_cons_succ]; rfl
          case hf_40 => kernel_rfl
          case hQ_40 => exact fun _ _ _ h => h
          case hy_40 =>
            refine Or.inl ⟨by rfl, ?_⟩
            intro W hSw
            obtain ⟨q0, q1, q2⟩ := hSw
            go_simp
            try with_reducible rfl
          try simp only [Act.put, List.setIfInBounds_toArray, List.set_cons_zero, List.set_cons_succ]
          refine wpAnyH_done (by kernel_rfl) ?_ _
          clear hHeld k0
          go_wp2
          clear fm
          subst hpe hqe
          go_roundw
          case rel => exact ⟨k + 1, r + (s1.size + s2.size - 100), by omega, by omega, by go_num, by exact sum100 r _ _ hp hq (by omega), Lib.hid (by have := HR.out; omega), Lib.hid (fun h => ⟨(HG.out (by omega)).1, all_more (HG.out (by omega)).2 (HPQ.out (by omega))⟩), Lib.hid (below_drew HB.out)⟩
          case measure => simp [intOf]; omega
        · have e0 : k = 25 := by omega
          subst e0
          go_wp2
          go_meet
          exact ⟨r, rfl, Lib.hid hr9, Lib.hid (fun h => absurd hlt (by have := (HG.out h).1; omega)), HB⟩
      · have e0 : n1 = k := by omega
        subst e0
        go_wp2
        go_meet
        exact ⟨r, rfl, Lib.hid hr9, Lib.hid (fun h => HG.out h), HB⟩
  case rest =>
  clear HR HG HB
  obtain ⟨r, hs3, HR, HG, HB⟩ := hcut
  subst hs3
  rename_i ha
  refine ha _ _ ?_
  go_step
  go_cut [3, 6, 117, 118, 119, 120, 121, 122, 123, 124, 125, 126, 127, 128, 129, 130, 131, 132, 133, 134, 135, 136] (fun s3 s6 s117 s118 s119 s120 s121 s122 s123 s124 s125 s126 s127 s128 s129 s130 s131 s132 s133 s134 s135 s136 wx => ∃ r : Nat, s3 = .int .i64 r ∧ Hid ((r : Int) ≤ 2502031067981021184) ∧ Hid (r = 0 → (((n0 ≤ 60 ∧ n1 ≤ 25 ∧ n2 ≤ 110 ∧ n4 ≤ 8 ∧ n5 ≤ 60 ∧ n6 ≤ 60 ∧ n8 ≤ 25 ∧ n9 ≤ 25) ∧ ∀ i, i < n0 → (X0 i).P.length + (X0 i).R.length ≤ 60) ∧ ∀ i, i < n1 → (X1 i).mo.size + (X1 i).nm.size ≤ 100) ∧ ∀ i, i < n2 → (X2 i).lc.length ≤ 60 ∧ grF (X2 i).m (X2 i).X) ∧ Hid (Below W0.heap.size W0 wx))
  case first =>
    as_aux_lemma =>
    go_wp2
    go_loopw [3, 6] (fun v3 v6 wr => ∃ k r : Nat, k ≤ n2 ∧ k ≤ 110 ∧ v6 = .int .i64 k ∧ v3 = .int .i64 r ∧ Hid ((r : Int) ≤ 25051272927248384 + k * 22517998136852480) ∧ Hid (r = 0 → (((n0 ≤ 60 ∧ n1 ≤ 25 ∧ n2 ≤ 110 ∧ n4 ≤ 8 ∧ n5 ≤ 60 ∧ n6 ≤ 60 ∧ n8 ≤ 25 ∧ n9 ≤ 25) ∧ ∀ i, i < n0 → (X0 i).P.length + (X0 i).R.length ≤ 60) ∧ ∀ i, i < n1 → (X1 i).mo.size + (X1 i).nm.size ≤ 100) ∧ ∀ i, i < k → (X2 i).lc.length ≤ 60 ∧ grF (X2 i).m (X2 i).X) ∧ Hid (Below W0.heap.size W0 wr)) (fun _ v6 _ => n2 - (intOf v6).toNat)
    case atStart => exact ⟨0, r, Nat.zero_le _, Nat.zero_le _, rfl, rfl, Lib.hid (by have := HR.out; omega), Lib.hid (fun h => ⟨HG.out h, fun i hi => by omega⟩), HB⟩
    case round =>
      clear HR HG HB
      obtain ⟨k, r, hk, hk2, rfl, rfl, HR, HG, HB⟩ := hrel
      have hxb : Blk wr w.heap.size 31 _ := HBX.out.below HB.out HBX.out.lt
      have xb := hxb.cell 2
      clear hxb
      have hr9 : (r : Int) ≤ 2502031067981021184 := by have := HR.out; omega
      by_cases hlt : k < n2
      · by_cases hlt2 : k < 110
        · obtain ⟨b, off, rfl, hbl, hat⟩ := ((HX.out.below HB.out).r2).2.2 (by show 0 < n2; omega)
          have ha := hat k hlt
          have hcn : n2 ≤ c2 := (HX.out.r2).1
          have hcm : c2 ≤ 9223372036854775807 := (HX.out.r2).2.1
          have hdd := HD2.out k hlt
          clear hat
          obtain ⟨A, c, B, d, y0, y1, y2, yb, yr⟩ := ha
          obtain ⟨hp, hq⟩ := hdd
          have HC := Lib.hid (Great_ok A (X2 k).lc.length c hp B (X2 k).m d (X2 k).X wr hq yr)
          clear yb yr hq y0
          generalize hpe : (X2 k).lc.length = p at y1 hp HC
          generalize hqe : (X2 k).m = q at y2 HC
          generalize hze : (X2 k).X = Z at HC
          have HPQ : Hid (p ≤ 60 ∧ grF q Z → (X2 k).lc.length ≤ 60 ∧ grF (X2 k).m (X2 k).X) := Lib.hid (fun h => by rw [hpe, hqe, hze]; exact h)
          clear hpe hqe hze
          go_wp2_with (go_at_call 24; (with_reducible refine HC.out.mono ?_); rintro e w2 ⟨hb2, r2, rfl, hr2, hi2⟩
                       have HB2 : Hid (Below W0.heap.size W0 w2) := Lib.hid (HB.out.trans (hb2.mono HB.out.size))
                       have HI2 := Lib.hid hi2
                       clear hb2 hi2)
          go_roundw
          case rel => exact ⟨k + 1, r + r2, by omega, by omega, by go_num, by first | rfl | (congr 1; omega), Lib.hid (by have := HR.out; omega), Lib.hid (fun h => ⟨(HG.out (by omega)).1, all_more (HG.out (by omega)).2 (HPQ.out (HI2.out.1 (by omega)))⟩), HB2⟩
          case measure => simp [intOf]; omega
        · have e0 : k = 110 := by omega
          subst e0
          go_wp2
          go_meet
          exact ⟨r, rfl, Lib.hid hr9, Lib.hid (fun h => absurd hlt (by have := (HG.out h).1; omega)), HB⟩
      · have e0 : n2 = k := by omega
        subst e0
        go_wp2
        go_meet
        exact ⟨r, rfl, Lib.hid hr9, Lib.hid (fun h => HG.out h), HB⟩
  case rest =>
  clear HR HG HB
  obtain ⟨r, hs3, HR, HG, HB⟩ := hcut
  subst hs3
  rename_i ha
  refine ha _ _ ?_
  go_step
  go_cut [3, 7, 137, 138, 139, 140, 141, 142, 143, 144, 145, 146, 147, 148, 149, 150, 151, 152, 153, 154, 155, 156, 157, 158] (fun s3 s7 s137 s138 s139 s140 s141 s142 s143 s144 s145 s146 s147 s148 s149 s150 s151 s152 s153 s154 s155 s156 s157 s158 wx => ∃ r : Nat, s3 = .int .i64 r ∧ Hid ((r : Int) ≤ 2510475317282340864) ∧ Hid (r = 0 → ((((n0 ≤ 60 ∧ n1 ≤ 25 ∧ n2 ≤ 110 ∧ n4 ≤ 8 ∧ n5 ≤ 60 ∧ n6 ≤ 60 ∧ n8 ≤ 25 ∧ n9 ≤ 25) ∧ ∀ i, i < n0 → (X0 i).P.length + (X0 i).R.length ≤ 60) ∧ ∀ i, i < n1 → (X1 i).mo.size + (X1 i).nm.size ≤ 100) ∧ ∀ i, i < n2 → (X2 i).lc.length ≤ 60 ∧ grF (X2 i).m (X2 i).X) ∧ ∀ i, i < n6 → (X6 i).nm.size ≤ 60) ∧ Hid (Below W0.heap.size W0 wx))
  case first =>
    as_aux_lemma =>
    go_wp2
    go_loopw [3, 7] (fun v3 v7 wr => ∃ k r : Nat, k ≤ n6 ∧ k ≤ 60 ∧ v7 = .int .i64 k ∧ v3 = .int .i64 r ∧ Hid ((r : Int) ≤ 2502031067981021184 + k * 140737488355328) ∧ Hid (r = 0 → ((((n0 ≤ 60 ∧ n1 ≤ 25 ∧ n2 ≤ 110 ∧ n4 ≤ 8 ∧ n5 ≤ 60 ∧ n6 ≤ 60 ∧ n8 ≤ 25 ∧ n9 ≤ 25) ∧ ∀ i, i < n0 → (X0 i).P.length + (X0 i).R.length ≤ 60) ∧ ∀ i, i < n1 → (X1 i).mo.size + (X1 i).nm.size ≤ 100) ∧ ∀ i, i < n2 → (X2 i).lc.length ≤ 60 ∧ grF (X2 i).m (X2 i).X) ∧ ∀ i, i < k → (X6 i).nm.size ≤ 60) ∧ Hid (Below W0.heap.size W0 wr)) (fun _ v7 _ => n6 - (intOf v7).toNat)
    case atStart => exact ⟨0, r, Nat.zero_le _, Nat.zero_le _, rfl, rfl, Lib.hid (by have := HR.out; omega), Lib.hid (fun h => ⟨HG.out h, fun i hi => by omega⟩), HB⟩
    case round =>
      clear HR HG HB
      obtain ⟨k, r, hk, hk2, rfl, rfl, HR, HG, HB⟩ := hrel
      have hxb : Blk wr w.heap.size 31 _ := HBX.out.below HB.out HBX.out.lt
      have xb := hxb.cell 6
      clear hxb
      have hr9 : (r : Int) ≤ 2510475317282340864 := by have := HR.out; omega
      by_cases hlt : k < n6
      · by_cases hlt2 : k < 60
        · obtain ⟨b, off, rfl, hbl, hat⟩ := ((HX.out.below HB.out).r6).2.2 (by show 0 < n6; omega)
          have ha := hat k hlt
          have hcn : n6 ≤ c6 := (HX.out.r6).1
          have hcm : c6 ≤ 9223372036854775807 := (HX.out.r6).2.1
          have hdd := HD6.out k hlt
          clear hat
          obtain ⟨y0, _, _⟩ := ha
          generalize hs1 : (X6 k).nm = s1 at y0 hdd
          obtain ⟨q, hqe⟩ : ∃ q, q = s1.size := ⟨_, rfl⟩
          rw [← hqe] at hdd
          have HPQ : Hid (q ≤ 60 → (X6 k).nm.size ≤ 60) := Lib.hid (fun h => by rw [hs1, ← hqe]; omega)
          clear hs1
          have fm := fun ts t W => q60 ts t W q
          go_wp2
          clear fm
          go_roundw
          case rel => exact ⟨k + 1, r + (q - 60), by omega, by omega, by go_num, by first | rfl | (congr 1; omega), Lib.hid (by have := HR.out; omega), Lib.hid (fun h => ⟨(HG.out (by omega)).1, all_more (HG.out (by omega)).2 (HPQ.out (by omega))⟩), HB⟩
          case measure => simp [intOf]; omega
        · have e0 : k = 60 := by omega
          subst e0
          go_wp2
          go_meet
          exact ⟨r, rfl, Lib.hid hr9, Lib.hid (fun h => absurd hlt (by have := (HG.out h).1; omega)), HB⟩
      · have e0 : n6 = k := by omega
        subst e0
        go_wp2
        go_meet
        exact ⟨r, rfl, Lib.hid hr9, Lib.hid (fun h => HG.out h), HB⟩
  case rest =>
  clear HR HG HB
  obtain ⟨r, hs3, HR, HG, HB⟩ := hcut
  subst hs3
  rename_i ha
  refine ha _ _ ?_
  go_step
  go_cut [3, 8, 159, 160, 161, 162, 163, 164, 165, 166, 167, 168, 169, 170, 171, 172, 173, 174, 175, 176, 177, 178, 179, 180] (fun s3 s8 s159 s160 s161 s162 s163 s164 s165 s166 s167 s168 s169 s170 s171 s172 s173 s174 s175 s176 s177 s178 s179 s180 wx => ∃ r : Nat, s3 = .int .i64 r ∧ Hid ((r : Int) ≤ 2513993754491224064) ∧ Hid (r = 0 → (((((n0 ≤ 60 ∧ n1 ≤ 25 ∧ n2 ≤ 110 ∧ n4 ≤ 8 ∧ n5 ≤ 60 ∧ n6 ≤ 60 ∧ n8 ≤ 25 ∧ n9 ≤ 25) ∧ ∀ i, i < n0 → (X0 i).P.length + (X0 i).R.length ≤ 60) ∧ ∀ i, i < n1 → (X1 i).mo.size + (X1 i).nm.size ≤ 100) ∧ ∀ i, i < n2 → (X2 i).lc.length ≤ 60 ∧ grF (X2 i).m (X2 i).X) ∧ ∀ i, i < n6 → (X6 i).nm.size ≤ 60) ∧ ∀ i, i < n8 → (X8 i).fs.length ≤ 30) ∧ Hid (Below W0.heap.size W0 wx))
  case first =>
    as_aux_lemma =>
    go_wp2
    go_loopw [3, 8] (fun v3 v8 wr => ∃ k r : Nat, k ≤ n8 ∧ k ≤ 25 ∧ v8 = .int .i64 k ∧ v3 = .int .i64 r ∧ Hid ((r : Int) ≤ 2510475317282340864 + k * 140737488355328) ∧ Hid (r = 0 → (((((n0 ≤ 60 ∧ n1 ≤ 25 ∧ n2 ≤ 110 ∧ n4 ≤ 8 ∧ n5 ≤ 60 ∧ n6 ≤ 60 ∧ n8 ≤ 25 ∧ n9 ≤ 25) ∧ ∀ i, i < n0 → (X0 i).P.length + (X0 i).R.length ≤ 60) ∧ ∀ i, i < n1 → (X1 i).mo.size + (X1 i).nm.size ≤ 100) ∧ ∀ i, i < n2 → (X2 i).lc.length ≤ 60 ∧ grF (X2 i).m (X2 i).X) ∧ ∀ i, i < n6 → (X6 i).nm.size ≤ 60) ∧ ∀ i, i < k → (X8 i).fs.length ≤ 30) ∧ Hid (Below W0.heap.size W0 wr)) (fun _ v8 _ => n8 - (intOf v8).toNat)
    case atStart => exact ⟨0, r, Nat.zero_le _, Nat.zero_le _, rfl, rfl, Lib.hid (by have := HR.out; omega), Lib.hid (fun h => ⟨HG.out h, fun i hi => by omega⟩), HB⟩
    case round =>
      clear HR HG HB
      obtain ⟨k, r, hk, hk2, rfl, rfl, HR, HG, HB⟩ := hrel
      have hxb : Blk wr w.heap.size 31 _ := HBX.out.below HB.out HBX.out.lt
      have xb := hxb.cell 8
      clear hxb
      have hr9 : (r : Int) ≤ 2513993754491224064 := by have := HR.out; omega
      by_cases hlt : k < n8
      · by_cases hlt2 : k < 25
        · obtain ⟨b, off, rfl, hbl, hat⟩ := ((HX.out.below HB.out).r8).2.2 (by show 0 < n8; omega)
          have ha := hat k hlt
          have hcn : n8 ≤ c8 := (HX.out.r8).1
          have hcm : c8 ≤ 9223372036854775807 := (HX.out.r8).2.1
          have hdd := HD8.out k hlt
          clear hat
          obtain ⟨A, c, y9, y0, _⟩ := ha
          clear y9
          generalize hqe : (X8 k).fs.length = q at y0 hdd
          have HPQ : Hid (q ≤ 30 → (X8 k).fs.length ≤ 30) := Lib.hid (fun h => by rw [hqe]; omega)
          clear hqe
          have fm := fun ts t W => q30 ts t W q
          go_wp2
          clear fm
          go_roundw
          case rel => exact ⟨k + 1, r + (q - 30), by omega, by omega, by go_num, by first | rfl | (congr 1; omega), Lib.hid (by have := HR.out; omega), Lib.hid (fun h => ⟨(HG.out (by omega)).1, all_more (HG.out (by omega)).2 (HPQ.out (by omega))⟩), HB⟩
          case measure => simp [intOf]; omega
        · have e0 : k = 25 := by omega
          subst e0
          go_wp2
          go_meet
          exact ⟨r, rfl, Lib.hid hr9, Lib.hid (fun h => absurd hlt (by have := (HG.out h).1; omega)), HB⟩
      · have e0 : n8 = k := by omega
        subst e0
        go_wp2
        go_meet
        exact ⟨r, rfl, Lib.hid hr9, Lib.hid (fun h => HG.out h), HB⟩
  case rest =>
  clear HR HG HB
  obtain ⟨r, hs3, HR, HG, HB⟩ := hcut
  subst hs3
  rename_i ha
  refine ha _ _ ?_
  go_step
  go_cut [3, 9, 181, 182, 183, 184, 185, 186, 187, 188, 189, 190, 191, 192, 193, 194, 195, 196, 197, 198, 199, 200, 201, 202] (fun s3 s9 s181 s182 s183 s184 s185 s186 s187 s188 s189 s190 s191 s192 s193 s194 s195 s196 s197 s198 s199 s200 s201 s202 wx => ∃ r : Nat, s3 = .int .i64 r ∧ Hid ((r : Int) ≤ 2517512191700107264) ∧ Hid (r = 0 → ((((((n0 ≤ 60 ∧ n1 ≤ 25 ∧ n2 ≤ 110 ∧ n4 ≤ 8 ∧ n5 ≤ 60 ∧ n6 ≤ 60 ∧ n8 ≤ 25 ∧ n9 ≤ 25) ∧ ∀ i, i < n0 → (X0 i).P.length + (X0 i).R.length ≤ 60) ∧ ∀ i, i < n1 → (X1 i).mo.size + (X1 i).nm.size ≤ 100) ∧ ∀ i, i < n2 → (X2 i).lc.length ≤ 60 ∧ grF (X2 i).m (X2 i).X) ∧ ∀ i, i < n6 → (X6 i).nm.size ≤ 60) ∧ ∀ i, i < n8 → (X8 i).fs.length ≤ 30) ∧ ∀ i, i < n9 → (X9 i).bs.length ≤ 4100) ∧ Hid (Below W0.heap.size W0 wx))
  case first =>
    as_aux_lemma =>
    go_wp2
    go_loopw [3, 9] (fun v3 v9 wr => ∃ k r : Nat, k ≤ n9 ∧ k ≤ 25 ∧ v9 = .int .i64 k ∧ v3 = .int .i64 r ∧ Hid ((r : Int) ≤ 2513993754491224064 + k * 140737488355328) ∧ Hid (r = 0 → ((((((n0 ≤ 60 ∧ n1 ≤ 25 ∧ n2 ≤ 110 ∧ n4 ≤ 8 ∧ n5 ≤ 60 ∧ n6 ≤ 60 ∧ n8 ≤ 25 ∧ n9 ≤ 25) ∧ ∀ i, i < n0 → (X0 i).P.length + (X0 i).R.length ≤ 60) ∧ ∀ i, i < n1 → (X1 i).mo.size + (X1 i).nm.size ≤ 100) ∧ ∀ i, i < n2 → (X2 i).lc.length ≤ 60 ∧ grF (X2 i).m (X2 i).X) ∧ ∀ i, i < n6 → (X6 i).nm.size ≤ 60) ∧ ∀ i, i < n8 → (X8 i).fs.length ≤ 30) ∧ ∀ i, i < k → (X9 i).bs.length ≤ 4100) ∧ Hid (Below W0.heap.size W0 wr)) (fun _ v9 _ => n9 - (intOf v9).toNat)
    case atStart => exact ⟨0, r, Nat.zero_le _, Nat.zero_le _, rfl, rfl, Lib.hid (by have := HR.out; omega), Lib.hid (fun h => ⟨HG.out h, fun i hi => by omega⟩), HB⟩
    case round =>
      clear HR HG HB
      obtain ⟨k, r, hk, hk2, rfl, rfl, HR, HG, HB⟩ := hrel
      have hxb : Blk wr w.heap.size 31 _ := HBX.out.below HB.out HBX.out.lt
      have xb := hxb.cell 9
      clear hxb
      have hr9 : (r : Int) ≤ 2517512191700107264 := by have := HR.out; omega
      by_cases hlt : k < n9
      · by_cases hlt2 : k < 25
        · obtain ⟨b, off, rfl, hbl, hat⟩ := ((HX.out.below HB.out).r9).2.2 (by show 0 < n9; omega)
          have ha := hat k hlt
          have hcn : n9 ≤ c9 := (HX.out.r9).1
          have hcm : c9 ≤ 9223372036854775807 := (HX.out.r9).2.1
          have hdd := HD9.out k hlt
          clear hat
          obtain ⟨A, c, _, _, y0, _⟩ := ha
          generalize hqe : (X9 k).bs.length = q at y0 hdd
          have HPQ : Hid (q ≤ 4100 → (X9 k).bs.length ≤ 4100) := Lib.hid (fun h => by rw [hqe]; omega)
          clear hqe
          have fm := fun ts t W => q4100 ts t W q
          go_wp2
          clear fm
          go_roundw
          case rel => exact ⟨k + 1, r + (q - 4100), by omega, by omega, by go_num, by first | rfl | (congr 1; omega), Lib.hid (by have := HR.out; omega), Lib.hid (fun h => ⟨(HG.out (by omega)).1, all_more (HG.out (by omega)).2 (HPQ.out (by omega))⟩), HB⟩
          case measure => simp [intOf]; omega
        · have e0 : k = 25 := by omega
          subst e0
          go_wp2
          go_meet
          exact ⟨r, rfl, Lib.hid hr9, Lib.hid (fun h => absurd hlt (by have := (HG.out h).1; omega)), HB⟩
      · have e0 : n9 = k := by omega
        subst e0
        go_wp2
        go_meet
        exact ⟨r, rfl, Lib.hid hr9, Lib.hid (fun h => HG.out h), HB⟩
  case rest =>
  clear HR HG HB
  obtain ⟨r, hs3, HR, HG, HB⟩ := hcut
  subst hs3
  go_wp2
  go_ret
  refine ⟨HB0.out.trans (HB.out.mono HB0.out.size), r, rfl, fun h => ?_⟩
  obtain ⟨⟨⟨⟨⟨⟨⟨h0, h1, h2, h4, h5, h6, h8, h9⟩, g0⟩, g1⟩, g2⟩, g6⟩, g8⟩, g9⟩ := HG.out h
  exact ⟨h0, h1, h2, h4, h5, h6, h8, h9, g0, g1, g2, g6, g8, g9⟩
end Go.Proofs.Ytackompihengfaa
