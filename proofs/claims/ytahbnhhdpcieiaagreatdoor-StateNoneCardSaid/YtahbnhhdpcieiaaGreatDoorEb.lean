/-
  Fit, where no part is wrong.
-/
import Derived.Test.YtahbnhhdpcieiaaGreatDoorEa
import Derived.Deep.WholeRow
import Derived.ProofKit
import Derived.Outline
namespace Go.Proofs.YtahbnhhdpcieiaaGreatDoor
open Go.RowKit
set_option linter.unusedVariables false
set_option linter.unusedSimpArgs false
def PF (g f : Nat) : Value := .func (.func f) #[.pointer (some ⟨g, 0, none⟩)] #[]
/-- the array of parts -/
def PV (g : Nat) : Array Value := #[.string ⟨#[115, 105, 103, 115]⟩, PF g 156, .string ⟨#[105, 109, 112, 111, 114, 116, 115]⟩, PF g 157, .string ⟨#[102, 117, 110, 99, 115]⟩, PF g 158, .string ⟨#[116, 97, 98, 108, 101]⟩, PF g 159, .string ⟨#[109, 101, 109, 115]⟩, PF g 160, .string ⟨#[103, 108, 111, 98, 97, 108, 115]⟩, PF g 161, .string ⟨#[101, 120, 112, 111, 114, 116, 115]⟩, PF g 162, .string ⟨#[115, 116, 97, 114, 116]⟩, PF g 163, .string ⟨#[101, 108, 101, 109, 115]⟩, PF g 164, .string ⟨#[100, 97, 116, 97]⟩, PF g 165]
theorem PV_size (g : Nat) : (PV g).size = 20 := rfl
theorem PV_one (g : Nat) : (PV g).all (·.oneCell') = true := by simp [PV, PF, Value.oneCell']
def ZP : Array Value := #[.string ⟨#[]⟩, .nilFunc, .string ⟨#[]⟩, .nilFunc, .string ⟨#[]⟩, .nilFunc, .string ⟨#[]⟩, .nilFunc, .string ⟨#[]⟩, .nilFunc, .string ⟨#[]⟩, .nilFunc, .string ⟨#[]⟩, .nilFunc, .string ⟨#[]⟩, .nilFunc, .string ⟨#[]⟩, .nilFunc, .string ⟨#[]⟩, .nilFunc]
/-- operations that only reckon, one behind the other -/
def chain (P : Program) : List Oper → Act → World → Option (Act × World)
  | [], a, w => some (a, w)
  | o :: l, a, w => match o.guard with
    | some _ => none
    | none => match (execOp a.eval o).run P w with
      | .ok (.value v) w' => chain P l (a.put o.dst v) w'
      | _ => none
theorem wpList_chain {P : Program} {ops : Array Oper} {Q : Exit → Act → World → Prop} {rest : List Oper} : ∀ (l : List Oper) (a : Act) (w : World) (b : Act) (w' : World), chain P l a w = some (b, w') → wpList P ops Q rest b w' → wpList P ops Q (l ++ rest) a w
  | [], a, w, b, w', h, hK => by
    simp only [chain, Option.some.injEq, Prod.mk.injEq] at h
    obtain ⟨rfl, rfl⟩ := h
    exact hK
  | o :: l, a, w, b, w', h, hK => by
    unfold chain at h
    split at h
    · cases h
    · rename_i hg
      split at h
      · rename_i v w1 hr
        refine wpList_plain hg fun K hK' => ?_
        unfold Oper.wp
        rw [hr]
        exact hK' _ _ (wpList_chain l _ _ _ _ h hK)
      · cases h
theorem wpList_chain_n {P : Program} {ops : Array Oper} {Q : Exit → Act → World → Prop} {l l2 : List Oper} {a : Act} {w : World} (n : Nat) (b : Act) (w' : World) (h : chain P (l.take n) a w = some (b, w')) (h2 : l.drop n = l2) (hK : wpList P ops Q l2 b w') : wpList P ops Q l a w := by
  subst h2
  rw [← List.take_append_drop n l]
  exact wpList_chain _ _ _ _ _ h hK
theorem ix0 (g : Nat) (W : World) : Sem.run Tryz.prog (Instr.index 297 (.agg (PV g)) (.int .i64 0)) W = .ok (.agg #[.string ⟨#[115, 105, 103, 115]⟩, PF g 156]) W := by kernel_rfl
theorem ix1 (g : Nat) (W : World) : Sem.run Tryz.prog (Instr.index 297 (.agg (PV g)) (.int .i64 1)) W = .ok (.agg #[.string ⟨#[105, 109, 112, 111, 114, 116, 115]⟩, PF g 157]) W := by kernel_rfl
theorem ix2 (g : Nat) (W : World) : Sem.run Tryz.prog (Instr.index 297 (.agg (PV g)) (.int .i64 2)) W = .ok (.agg #[.string ⟨#[102, 117, 110, 99, 115]⟩, PF g 158]) W := by kernel_rfl
theorem ix3 (g : Nat) (W : World) : Sem.run Tryz.prog (Instr.index 297 (.agg (PV g)) (.int .i64 3)) W = .ok (.agg #[.string ⟨#[116, 97, 98, 108, 101]⟩, PF g 159]) W := by kernel_rfl
theorem ix4 (g : Nat) (W : World) : Sem.run Tryz.prog (Instr.index 297 (.agg (PV g)) (.int .i64 4)) W = .ok (.agg #[.string ⟨#[109, 101, 109, 115]⟩, PF g 160]) W := by kernel_rfl
theorem ix5 (g : Nat) (W : World) : Sem.run Tryz.prog (Instr.index 297 (.agg (PV g)) (.int .i64 5)) W = .ok (.agg #[.string ⟨#[103, 108, 111, 98, 97, 108, 115]⟩, PF g 161]) W := by kernel_rfl
theorem ix6 (g : Nat) (W : World) : Sem.run Tryz.prog (Instr.index 297 (.agg (PV g)) (.int .i64 6)) W = .ok (.agg #[.string ⟨#[101, 120, 112, 111, 114, 116, 115]⟩, PF g 162]) W := by kernel_rfl
theorem ix7 (g : Nat) (W : World) : Sem.run Tryz.prog (Instr.index 297 (.agg (PV g)) (.int .i64 7)) W = .ok (.agg #[.string ⟨#[115, 116, 97, 114, 116]⟩, PF g 163]) W := by kernel_rfl
theorem ix8 (g : Nat) (W : World) : Sem.run Tryz.prog (Instr.index 297 (.agg (PV g)) (.int .i64 8)) W = .ok (.agg #[.string ⟨#[101, 108, 101, 109, 115]⟩, PF g 164]) W := by kernel_rfl
theorem ix9 (g : Nat) (W : World) : Sem.run Tryz.prog (Instr.index 297 (.agg (PV g)) (.int .i64 9)) W = .ok (.agg #[.string ⟨#[100, 97, 116, 97]⟩, PF g 165]) W := by kernel_rfl
set_option maxHeartbeats 4000000 in
set_option maxRecDepth 100000 in
theorem Fit_ok (g : Nat) (w : World) (hP : ∀ f : Nat, 156 ≤ f → f ≤ 165 → ∀ W, Below w.heap.size w W → Calls Tryz.prog f #[.pointer (some ⟨g, 0, none⟩)] W fun e w' => e = .returned (.int .i64 0) ∧ Below W.heap.size W w') :
    Calls Tryz.prog 139 #[.pointer (some ⟨g, 0, none⟩)] w fun e w' => e = .returned (.tuple #[.string ⟨#[]⟩, .int .i64 0]) ∧ Below w.heap.size w w' := by
  have HP := Lib.hid hP
  clear hP
  go_enter Tryz.func139, Tryz.ntmps139
  go_upto_region 3 with fail
  go_cut [4, 10, 11, 12, 13, 14, 15, 16, 17, 18, 19, 20, 21, 22, 23, 24, 25, 26, 27, 28, 29, 30, 31, 32, 33, 34, 35, 36, 37, 38, 39, 40] (fun s4 s10 s11 s12 s13 s14 s15 s16 s17 s18 s19 s20 s21 s22 s23 s24 s25 s26 s27 s28 s29 s30 s31 s32 s33 s34 s35 s36 s37 s38 s39 s40 wx => s4 = .pointer (some ⟨w.heap.size, 0, none⟩) ∧ wx = w.alloc (.cells (PV g) 297))
  case first =>
    refine wp_region_list ?_
    refine wpList_chain_n 31 { tmps := #[.pointer (some ⟨g, 0, none⟩), undef, .string ⟨#[]⟩, .int .i64 0, undef, undef, undef, undef, .pointer (some ⟨g, 0, none⟩), .bool false, .pointer (some ⟨g, 0, none⟩), PF g 156, .agg #[.string ⟨#[115, 105, 103, 115]⟩, PF g 156], .pointer (some ⟨g, 0, none⟩), PF g 157, .agg #[.string ⟨#[105, 109, 112, 111, 114, 116, 115]⟩, PF g 157], .pointer (some ⟨g, 0, none⟩), PF g 158, .agg #[.string ⟨#[102, 117, 110, 99, 115]⟩, PF g 158], .pointer (some ⟨g, 0, none⟩), PF g 159, .agg #[.string ⟨#[116, 97, 98, 108, 101]⟩, PF g 159], .pointer (some ⟨g, 0, none⟩), PF g 160, .agg #[.string ⟨#[109, 101, 109, 115]⟩, PF g 160], .pointer (some ⟨g, 0, none⟩), PF g 161, .agg #[.string ⟨#[103, 108, 111, 98, 97, 108, 115]⟩, PF g 161], .pointer (some ⟨g, 0, none⟩), PF g 162, .agg #[.string ⟨#[101, 120, 112, 111, 114, 116, 115]⟩, PF g 162], .pointer (some ⟨g, 0, none⟩), PF g 163, .agg #[.string ⟨#[115, 116, 97, 114, 116]⟩, PF g 163], .pointer (some ⟨g, 0, none⟩), PF g 164, .agg #[.string ⟨#[101, 108, 101, 109, 115]⟩, PF g 164], .pointer (some ⟨g, 0, none⟩), PF g 165, .agg #[.string ⟨#[100, 97, 116, 97]⟩, PF g 165], .agg (PV g), undef, undef, undef, undef, undef, undef, undef, undef, undef, undef, undef, undef, undef], defers := [] } w (by kernel_rfl) rfl ?_
    have hs1 := PV_size g
    have hs2 := PV_one g
    have hst := run_storeCells_new (P := Tryz.prog) w 297 ZP (PV g) (by kernel_rfl) rfl hs2
    unfold ZP at hst
    generalize PV g = pv at *
    go_wp2_with fail
    go_meet
    exact ⟨rfl, rfl⟩
  case rest =>
    obtain ⟨rfl, rfl⟩ := hcut
    have HG : Hid ((w.alloc (.cells (PV g) 297)).heap[w.heap.size]? = some (.cells (PV g) 297 (0, 0))) := Lib.hid (heap_alloc_new w _)
    have HS : Hid ((Tryz.prog.info? 297).map (·.size) = some (PV g).size) := Lib.hid (by kernel_rfl)
    have hb0 := (Below.refl w.heap.size w).alloc (Nat.le_refl _) (.cells (PV g) 297)
    have i0 := ix0 g
    unfold PF at i0
    have i1 := ix1 g
    unfold PF at i1
    have i2 := ix2 g
    unfold PF at i2
    have i3 := ix3 g
    unfold PF at i3
    have i4 := ix4 g
    unfold PF at i4
    have i5 := ix5 g
    unfold PF at i5
    have i6 := ix6 g
    unfold PF at i6
    have i7 := ix7 g
    unfold PF at i7
    have i8 := ix8 g
    unfold PF at i8
    have i9 := ix9 g
    unfold PF at i9
    generalize PV g = pv at *
    have HB0 := Lib.hid hb0
    clear hb0
    go_wp2_with (with_reducible refine wpList_load_row rfl 297 (.tmp 4) rfl w.heap.size rfl 297 pv (0, 0) _ HG.out Tryz.underlying297 rfl HS.out ?_)
    go_loopw [6, 7, 42, 43, 44, 45, 46, 47, 48, 49, 53] (fun v6 v7 v42 v43 v44 v45 v46 v47 v48 v49 v53 wr => ∃ k : Nat, k ≤ 10 ∧ v42 = .int .i64 k ∧ Hid (Below w.heap.size w wr)) (fun _ _ v42 _ _ _ _ _ _ _ _ _ => 10 - (intOf v42).toNat)
    case atStart => exact ⟨0, by decide, rfl, HB0⟩
    case round =>
      obtain ⟨k, hk, rfl, HB⟩ := hrel
      have hk2 : k = 10 ∨ k = 0 ∨ k = 1 ∨ k = 2 ∨ k = 3 ∨ k = 4 ∨ k = 5 ∨ k = 6 ∨ k = 7 ∨ k = 8 ∨ k = 9 := by omega
      rcases hk2 with rfl | rfl | rfl | rfl | rfl | rfl | rfl | rfl | rfl | rfl | rfl
      · go_wp2
        go_ret2
        exact ⟨rfl, HB.out⟩
      · go_wp2_with (go_at_call 156; (refine (HP.out 156 (by decide) (by decide) _ (HB.out.alloc HB.out.size _)).mono ?_); rintro e w1 ⟨rfl, hb1⟩; have HB1 : Hid (Below w.heap.size w w1) := Lib.hid ((HB.out.alloc HB.out.size _).trans (hb1.mono (HB.out.alloc HB.out.size _).size)); clear hb1)
        go_round
        case rel => exact ⟨1, by decide, rfl, HB1⟩
        case measure => simp [intOf]
      · go_wp2_with (go_at_call 157; (refine (HP.out 157 (by decide) (by decide) _ (HB.out.alloc HB.out.size _)).mono ?_); rintro e w1 ⟨rfl, hb1⟩; have HB1 : Hid (Below w.heap.size w w1) := Lib.hid ((HB.out.alloc HB.out.size _).trans (hb1.mono (HB.out.alloc HB.out.size _).size)); clear hb1)
        go_round
        case rel => exact ⟨2, by decide, rfl, HB1⟩
        case measure => simp [intOf]
      · go_wp2_with (go_at_call 158; (refine (HP.out 158 (by decide) (by decide) _ (HB.out.alloc HB.out.size _)).mono ?_); rintro e w1 ⟨rfl, hb1⟩; have HB1 : Hid (Below w.heap.size w w1) := Lib.hid ((HB.out.alloc HB.out.size _).trans (hb1.mono (HB.out.alloc HB.out.size _).size)); clear hb1)
        go_round
        case rel => exact ⟨3, by decide, rfl, HB1⟩
        case measure => simp [intOf]
      · go_wp2_with (go_at_call 159; (refine (HP.out 159 (by decide) (by decide) _ (HB.out.alloc HB.out.size _)).mono ?_); rintro e w1 ⟨rfl, hb1⟩; have HB1 : Hid (Below w.heap.size w w1) := Lib.hid ((HB.out.alloc HB.out.size _).trans (hb1.mono (HB.out.alloc HB.out.size _).size)); clear hb1)
        go_round
        case rel => exact ⟨4, by decide, rfl, HB1⟩
        case measure => simp [intOf]
      · go_wp2_with (go_at_call 160; (refine (HP.out 160 (by decide) (by decide) _ (HB.out.alloc HB.out.size _)).mono ?_); rintro e w1 ⟨rfl, hb1⟩; have HB1 : Hid (Below w.heap.size w w1) := Lib.hid ((HB.out.alloc HB.out.size _).trans (hb1.mono (HB.out.alloc HB.out.size _).size)); clear hb1)
        go_round
        case rel => exact ⟨5, by decide, rfl, HB1⟩
        case measure => simp [intOf]
      · go_wp2_with (go_at_call 161; (refine (HP.out 161 (by decide) (by decide) _ (HB.out.alloc HB.out.size _)).mono ?_); rintro e w1 ⟨rfl, hb1⟩; have HB1 : Hid (Below w.heap.size w w1) := Lib.hid ((HB.out.alloc HB.out.size _).trans (hb1.mono (HB.out.alloc HB.out.size _).size)); clear hb1)
        go_round
        case rel => exact ⟨6, by decide, rfl, HB1⟩
        case measure => simp [intOf]
      · go_wp2_with (go_at_call 162; (refine (HP.out 162 (by decide) (by decide) _ (HB.out.alloc HB.out.size _)).mono ?_); rintro e w1 ⟨rfl, hb1⟩; have HB1 : Hid (Below w.heap.size w w1) := Lib.hid ((HB.out.alloc HB.out.size _).trans (hb1.mono (HB.out.alloc HB.out.size _).size)); clear hb1)
        go_round
        case rel => exact ⟨7, by decide, rfl, HB1⟩
        case measure => simp [intOf]
      · go_wp2_with (go_at_call 163; (refine (HP.out 163 (by decide) (by decide) _ (HB.out.alloc HB.out.size _)).mono ?_); rintro e w1 ⟨rfl, hb1⟩; have HB1 : Hid (Below w.heap.size w w1) := Lib.hid ((HB.out.alloc HB.out.size _).trans (hb1.mono (HB.out.alloc HB.out.size _).size)); clear hb1)
        go_round
        case rel => exact ⟨8, by decide, rfl, HB1⟩
        case measure => simp [intOf]
      · go_wp2_with (go_at_call 164; (refine (HP.out 164 (by decide) (by decide) _ (HB.out.alloc HB.out.size _)).mono ?_); rintro e w1 ⟨rfl, hb1⟩; have HB1 : Hid (Below w.heap.size w w1) := Lib.hid ((HB.out.alloc HB.out.size _).trans (hb1.mono (HB.out.alloc HB.out.size _).size)); clear hb1)
        go_round
        case rel => exact ⟨9, by decide, rfl, HB1⟩
        case measure => simp [intOf]
      · go_wp2_with (go_at_call 165; (refine (HP.out 165 (by decide) (by decide) _ (HB.out.alloc HB.out.size _)).mono ?_); rintro e w1 ⟨rfl, hb1⟩; have HB1 : Hid (Below w.heap.size w w1) := Lib.hid ((HB.out.alloc HB.out.size _).trans (hb1.mono (HB.out.alloc HB.out.size _).size)); clear hb1)
        go_round
        case rel => exact ⟨10, by decide, rfl, HB1⟩
        case measure => simp [intOf]

end Go.Proofs.YtahbnhhdpcieiaaGreatDoor
