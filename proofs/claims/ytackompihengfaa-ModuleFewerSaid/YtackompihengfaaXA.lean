/-
  ModuleFewer: five copies: the region whole.
-/
import Derived.Test.YtackompihengfaaX8
namespace Go.Proofs.Ytackompihengfaa
open Go.RowKit Go.PlainAid
set_option linter.unusedVariables false
set_option linter.unusedSimpArgs false
set_option maxHeartbeats 8000000 in
set_option maxRecDepth 1000000 in
theorem mw6_ok {W : World} {bx : Nat} {A0 A1 A2 A4 A5 A6 A8 A9 : Option Addr} {n0 c0 n1 c1 n2 c2 n4 c4 n5 c5 n6 c6 n8 c8 n9 c9 : Nat} {tab start : Int} (hbx : Blk W bx 31 #[.slice A0 n0 c0, .slice A1 n1 c1, .slice A2 n2 c2, .int .i64 tab, .slice A4 n4 c4, .slice A5 n5 c5, .slice A6 n6 c6, .int .i64 start, .slice A8 n8 c8, .slice A9 n9 c9]) (s0 s2 s3 s4 s10 s11 s12 s13 s14 s15 s16 s17 s18 s19 s20 s21 s22 s23 s24 s25 s26 s27 s28 s29 s30 s31 s32 s33 s34 s40 s41 s42 s43 s44 s45 s46 s47 s48 s49 s50 s51 s52 s53 s54 s55 s56 s57 s58 s59 s60 s61 s62 s63 s64 s65 s66 s67 s68 s69 s70 s71 s72 s73 s74 s75 s76 s77 s78 s79 s80 s81 s82 s83 s84 s85 s86 s87 s88 s89 s90 s91 s92 s93 s94 s95 s96 s97 s98 s99 : Value) (Q : Exit → Act → World → Prop)
    (hN : ∀ (V : World) (b5 b6 b7 b8 b9 : Nat), BxC W.drew V bx #[.slice A0 n0 c0, .slice A1 n1 c1, .slice A2 n2 c2, .int .i64 tab, .slice A4 n4 c4, .slice A5 n5 c5, .slice A6 n6 c6, .int .i64 start, .slice A8 n8 c8, .slice A9 n9 c9] → Nb W.drew V b5 #[.slice A0 n0 c0, .slice A1 n1 c1, .slice A2 n2 c2, .int .i64 tab, .slice A4 n4 c4, .slice A5 n5 c5, .slice A6 n6 c6, .int .i64 start, .slice A8 n8 c8, .slice A9 n9 c9] → Nb W.drew V b6 #[.slice A0 n0 c0, .slice A1 n1 c1, .slice A2 n2 c2, .int .i64 tab, .slice A4 n4 c4, .slice A5 n5 c5, .slice A6 n6 c6, .int .i64 start, .slice A8 n8 c8, .slice A9 n9 c9] → Nb W.drew V b7 #[.slice A0 n0 c0, .slice A1 n1 c1, .slice A2 n2 c2, .int .i64 tab, .slice A4 n4 c4, .slice A5 n5 c5, .slice A6 n6 c6, .int .i64 start, .slice A8 n8 c8, .slice A9 n9 c9] → Nb W.drew V b8 #[.slice A0 n0 c0, .slice A1 n1 c1, .slice A2 n2 c2, .int .i64 tab, .slice A4 n4 c4, .slice A5 n5 c5, .slice A6 n6 c6, .int .i64 start, .slice A8 n8 c8, .slice A9 n9 c9] → Nb W.drew V b9 #[.slice A0 n0 c0, .slice A1 n1 c1, .slice A2 n2 c2, .int .i64 tab, .slice A4 n4 c4, .slice A5 n5 c5, .slice A6 n6 c6, .int .i64 start, .slice A8 n8 c8, .slice A9 n9 c9] → b5 ≠ b6 → b5 ≠ b7 → b5 ≠ b8 → b5 ≠ b9 → b6 ≠ b7 → b6 ≠ b8 → b6 ≠ b9 → b7 ≠ b8 → b7 ≠ b9 → b8 ≠ b9 → Q .normal ⟨#[s0, .pointer (some ⟨bx, 0, none⟩), s2, s3, s4, .pointer (some ⟨b5, 0, none⟩), .pointer (some ⟨b6, 0, none⟩), .pointer (some ⟨b7, 0, none⟩), .pointer (some ⟨b8, 0, none⟩), .pointer (some ⟨b9, 0, none⟩), s10, s11, s12, s13, s14, s15, s16, s17, s18, s19, s20, s21, s22, s23, s24, s25, s26, s27, s28, s29, s30, s31, s32, s33, s34, .agg #[.slice A0 n0 c0, .slice A1 n1 c1, .slice A2 n2 c2, .int .i64 tab, .slice A4 n4 c4, .slice A5 n5 c5, .slice A6 n6 c6, .int .i64 start, .slice A8 n8 c8, .slice A9 n9 c9], .agg #[.slice A0 n0 c0, .slice A1 n1 c1, .slice A2 n2 c2, .int .i64 tab, .slice A4 n4 c4, .slice A5 n5 c5, .slice A6 n6 c6, .int .i64 start, .slice A8 n8 c8, .slice A9 n9 c9], .agg #[.slice A0 n0 c0, .slice A1 n1 c1, .slice A2 n2 c2, .int .i64 tab, .slice A4 n4 c4, .slice A5 n5 c5, .slice A6 n6 c6, .int .i64 start, .slice A8 n8 c8, .slice A9 n9 c9], .agg #[.slice A0 n0 c0, .slice A1 n1 c1, .slice A2 n2 c2, .int .i64 tab, .slice A4 n4 c4, .slice A5 n5 c5, .slice A6 n6 c6, .int .i64 start, .slice A8 n8 c8, .slice A9 n9 c9], .agg #[.slice A0 n0 c0, .slice A1 n1 c1, .slice A2 n2 c2, .int .i64 tab, .slice A4 n4 c4, .slice A5 n5 c5, .slice A6 n6 c6, .int .i64 start, .slice A8 n8 c8, .slice A9 n9 c9], s40, s41, s42, s43, s44, s45, s46, s47, s48, s49, s50, s51, s52, s53, s54, s55, s56, s57, s58, s59, s60, s61, s62, s63, s64, s65, s66, s67, s68, s69, s70, s71, s72, s73, s74, s75, s76, s77, s78, s79, s80, s81, s82, s83, s84, s85, s86, s87, s88, s89, s90, s91, s92, s93, s94, s95, s96, s97, s98, s99], []⟩ V) :
    Code.wp Try.prog mwReg6 Q ⟨#[s0, .pointer (some ⟨bx, 0, none⟩), s2, s3, s4, undef, undef, undef, undef, undef, s10, s11, s12, s13, s14, s15, s16, s17, s18, s19, s20, s21, s22, s23, s24, s25, s26, s27, s28, s29, s30, s31, s32, s33, s34, undef, undef, undef, undef, undef, s40, s41, s42, s43, s44, s45, s46, s47, s48, s49, s50, s51, s52, s53, s54, s55, s56, s57, s58, s59, s60, s61, s62, s63, s64, s65, s66, s67, s68, s69, s70, s71, s72, s73, s74, s75, s76, s77, s78, s79, s80, s81, s82, s83, s84, s85, s86, s87, s88, s89, s90, s91, s92, s93, s94, s95, s96, s97, s98, s99], []⟩ W := by
  have HN := Lib.hid hN
  clear hN
  have hbx2 : Blk W.drew bx 31 #[.slice A0 n0 c0, .slice A1 n1 c1, .slice A2 n2 c2, .int .i64 tab, .slice A4 n4 c4, .slice A5 n5 c5, .slice A6 n6 c6, .int .i64 start, .slice A8 n8 c8, .slice A9 n9 c9] := hbx
  rw [mwReg6_eq]
  refine wp_region_noPanic ?_
  refine wp_region_held_drew (S := (fun W => W.cell? ⟨bx, 0, none⟩ = some (.slice A0 n0 c0) ∧ W.cell? ⟨bx, 1, none⟩ = some (.slice A1 n1 c1) ∧ W.cell? ⟨bx, 2, none⟩ = some (.slice A2 n2 c2) ∧ W.cell? ⟨bx, 3, none⟩ = some (.int .i64 tab) ∧ W.cell? ⟨bx, 4, none⟩ = some (.slice A4 n4 c4) ∧ W.cell? ⟨bx, 5, none⟩ = some (.slice A5 n5 c5) ∧ W.cell? ⟨bx, 6, none⟩ = some (.slice A6 n6 c6) ∧ W.cell? ⟨bx, 7, none⟩ = some (.int .i64 start) ∧ W.cell? ⟨bx, 8, none⟩ = some (.slice A8 n8 c8) ∧ W.cell? ⟨bx, 9, none⟩ = some (.slice A9 n9 c9))) (by kernel_rfl) ⟨hbx2.cell 0, hbx2.cell 1, hbx2.cell 2, hbx2.cell 3, hbx2.cell 4, hbx2.cell 5, hbx2.cell 6, hbx2.cell 7, hbx2.cell 8, hbx2.cell 9⟩ (fun hHeld => ?_)
  refine wpAnyH_take (i := 0) (oi := { dst := some 35, op := Op.load 31 (Operand.tmp 1), type := 31, pos := "law.go:327", after := #[], guard := none }) (v := .agg #[.slice A0 n0 c0, .slice A1 n1 c1, .slice A2 n2 c2, .int .i64 tab, .slice A4 n4 c4, .slice A5 n5 c5, .slice A6 n6 c6, .int .i64 start, .slice A8 n8 c8, .slice A9 n9 c9]) (by kernel_rfl) (by kernel_rfl) (by kernel_rfl) (by kernel_rfl) (fun _ _ _ h => h) (Or.inl ⟨by rfl, fun V hV => by
    obtain ⟨q0, q1, q2, q3, q4, q5, q6, q7, q8, q9⟩ := hV
    go_simp
    try with_reducible rfl⟩) (by assumption) ?_
  try simp only [Act.put, List.setIfInBounds_toArray, List.set_cons_zero, List.set_cons_succ]
  refine wpAnyH_take (i := 1) (oi := { dst := some 36, op := Op.load 31 (Operand.tmp 1), type := 31, pos := "law.go:327", after := #[{ on := 10, ground := Ground.gcOnly Departure.lateStores }], guard := none }) (v := .agg #[.slice A0 n0 c0, .slice A1 n1 c1, .slice A2 n2 c2, .int .i64 tab, .slice A4 n4 c4, .slice A5 n5 c5, .slice A6 n6 c6, .int .i64 start, .slice A8 n8 c8, .slice A9 n9 c9]) (by kernel_rfl) (by kernel_rfl) (by kernel_rfl) (by kernel_rfl) (fun _ _ _ h => h) (Or.inl ⟨by rfl, fun V hV => by
    obtain ⟨q0, q1, q2, q3, q4, q5, q6, q7, q8, q9⟩ := hV
    go_simp
    try with_reducible rfl⟩) (by assumption) ?_
  try simp only [Act.put, List.setIfInBounds_toArray, List.set_cons_zero, List.set_cons_succ]
  refine wpAnyH_take (i := 2) (oi := { dst := some 37, op := Op.load 31 (Operand.tmp 1), type := 31, pos := "law.go:327", after := #[{ on := 11, ground := Ground.gcOnly Departure.lateStores }], guard := none }) (v := .agg #[.slice A0 n0 c0, .slice A1 n1 c1, .slice A2 n2 c2, .int .i64 tab, .slice A4 n4 c4, .slice A5 n5 c5, .slice A6 n6 c6, .int .i64 start, .slice A8 n8 c8, .slice A9 n9 c9]) (by kernel_rfl) (by kernel_rfl) (by kernel_rfl) (by kernel_rfl) (fun _ _ _ h => h) (Or.inl ⟨by rfl, fun V hV => by
    obtain ⟨q0, q1, q2, q3, q4, q5, q6, q7, q8, q9⟩ := hV
    go_simp
    try with_reducible rfl⟩) (by assumption) ?_
  try simp only [Act.put, List.setIfInBounds_toArray, List.set_cons_zero, List.set_cons_succ]
  refine wpAnyH_take (i := 3) (oi := { dst := some 38, op := Op.load 31 (Operand.tmp 1), type := 31, pos := "law.go:327", after := #[{ on := 12, ground := Ground.gcOnly Departure.lateStores }], guard := none }) (v := .agg #[.slice A0 n0 c0, .slice A1 n1 c1, .slice A2 n2 c2, .int .i64 tab, .slice A4 n4 c4, .slice A5 n5 c5, .slice A6 n6 c6, .int .i64 start, .slice A8 n8 c8, .slice A9 n9 c9]) (by kernel_rfl) (by kernel_rfl) (by kernel_rfl) (by kernel_rfl) (fun _ _ _ h => h) (Or.inl ⟨by rfl, fun V hV => by
    obtain ⟨q0, q1, q2, q3, q4, q5, q6, q7, q8, q9⟩ := hV
    go_simp
    try with_reducible rfl⟩) (by assumption) ?_
  try simp only [Act.put, List.setIfInBounds_toArray, List.set_cons_zero, List.set_cons_succ]
  refine wpAnyH_take (i := 4) (oi := { dst := some 39, op := Op.load 31 (Operand.tmp 1), type := 31, pos := "law.go:327", after := #[{ on := 13, ground := Ground.gcOnly Departure.lateStores }], guard := none }) (v := .agg #[.slice A0 n0 c0, .slice A1 n1 c1, .slice A2 n2 c2, .int .i64 tab, .slice A4 n4 c4, .slice A5 n5 c5, .slice A6 n6 c6, .int .i64 start, .slice A8 n8 c8, .slice A9 n9 c9]) (by kernel_rfl) (by kernel_rfl) (by kernel_rfl) (by kernel_rfl) (fun _ _ _ h => h) (Or.inl ⟨by rfl, fun V hV => by
    obtain ⟨q0, q1, q2, q3, q4, q5, q6, q7, q8, q9⟩ := hV
    go_simp
    try with_reducible rfl⟩) (by assumption) ?_
  try simp only [Act.put, List.setIfInBounds_toArray, List.set_cons_zero, List.set_cons_succ]
  refine al_0 (W0 := W.drew) (W := W.drew) (bx := bx) _ _ _ _ _ _ _ _ _ _ _ _ _ _ _ _ _ _ _ _ _ _ _ _ _ _ _ _ _ _ _ _ _ _ _ _ _ _ _ _ _ _ _ _ _ _ _ _ _ _ _ _ _ _ _ _ _ _ _ _ _ _ _ _ _ _ _ _ _ _ _ _ _ _ _ _ _ _ _ _ _ _ _ _ _ _ _ _ _ Q ⟨Below.refl _ _, hbx2⟩ ?_
  intro V b5 b6 b7 b8 b9 hX h5 h6 h7 h8 h9 h56 h57 h58 h59 h67 h68 h69 h78 h79 h89
  refine wpAnyH_ready (rs := [10]) (by kernel_rfl) (by simp) ?_
  refine AllReadyH.cons (o := { dst := none, op := Op.store 31 (Operand.tmp 5) (Operand.tmp 35), type := 0, pos := "law.go:327", after := #[{ on := 5, ground := Ground.data }, { on := 0, ground := Ground.data }, { on := 0, ground := Ground.phase }, { on := 1, ground := Ground.textOnly Departure.lateStores }, { on := 2, ground := Ground.textOnly Departure.lateStores }, { on := 3, ground := Ground.textOnly Departure.lateStores }, { on := 4, ground := Ground.textOnly Departure.lateStores }, { on := 5, ground := Ground.phase }, { on := 6, ground := Ground.phase }, { on := 7, ground := Ground.phase }, { on := 8, ground := Ground.phase }, { on := 9, ground := Ground.phase }], guard := none }) (by kernel_rfl) (fun K hK => ?_) AllReadyH.nil
  refine step_store_row rfl 31 (.tmp 5) (.tmp 35) rfl b5 #[.slice A0 n0 c0, .slice A1 n1 c1, .slice A2 n2 c2, .int .i64 tab, .slice A4 n4 c4, .slice A5 n5 c5, .slice A6 n6 c6, .int .i64 start, .slice A8 n8 c8, .slice A9 n9 c9] rfl rfl 31 _ h5.1 (by kernel_rfl) rfl (by simp [Value.oneCell']) ?_
  have hX : BxC W.drew _ bx #[.slice A0 n0 c0, .slice A1 n1 c1, .slice A2 n2 c2, .int .i64 tab, .slice A4 n4 c4, .slice A5 n5 c5, .slice A6 n6 c6, .int .i64 start, .slice A8 n8 c8, .slice A9 n9 c9] := ⟨below_setRow hX.1 h5.2 #[.slice A0 n0 c0, .slice A1 n1 c1, .slice A2 n2 c2, .int .i64 tab, .slice A4 n4 c4, .slice A5 n5 c5, .slice A6 n6 c6, .int .i64 start, .slice A8 n8 c8, .slice A9 n9 c9], hX.2⟩
  have g5 : Nb W.drew _ b5 #[.slice A0 n0 c0, .slice A1 n1 c1, .slice A2 n2 c2, .int .i64 tab, .slice A4 n4 c4, .slice A5 n5 c5, .slice A6 n6 c6, .int .i64 start, .slice A8 n8 c8, .slice A9 n9 c9] := ⟨setRow_heap _ b5 _ #[.slice A0 n0 c0, .slice A1 n1 c1, .slice A2 n2 c2, .int .i64 tab, .slice A4 n4 c4, .slice A5 n5 c5, .slice A6 n6 c6, .int .i64 start, .slice A8 n8 c8, .slice A9 n9 c9] 31 (0, 0) h5.1, h5.2⟩
  have g6 := h6.row (b' := b5) (cs' := #[.slice A0 n0 c0, .slice A1 n1 c1, .slice A2 n2 c2, .int .i64 tab, .slice A4 n4 c4, .slice A5 n5 c5, .slice A6 n6 c6, .int .i64 start, .slice A8 n8 c8, .slice A9 n9 c9]) (Ne.symm h56)
  have g7 := h7.row (b' := b5) (cs' := #[.slice A0 n0 c0, .slice A1 n1 c1, .slice A2 n2 c2, .int .i64 tab, .slice A4 n4 c4, .slice A5 n5 c5, .slice A6 n6 c6, .int .i64 start, .slice A8 n8 c8, .slice A9 n9 c9]) (Ne.symm h57)
  have g8 := h8.row (b' := b5) (cs' := #[.slice A0 n0 c0, .slice A1 n1 c1, .slice A2 n2 c2, .int .i64 tab, .slice A4 n4 c4, .slice A5 n5 c5, .slice A6 n6 c6, .int .i64 start, .slice A8 n8 c8, .slice A9 n9 c9]) (Ne.symm h58)
  have g9 := h9.row (b' := b5) (cs' := #[.slice A0 n0 c0, .slice A1 n1 c1, .slice A2 n2 c2, .int .i64 tab, .slice A4 n4 c4, .slice A5 n5 c5, .slice A6 n6 c6, .int .i64 start, .slice A8 n8 c8, .slice A9 n9 c9]) (Ne.symm h59)
  refine hK.out _ _ ⟨hX.blk.cell 0, hX.blk.cell 1, hX.blk.cell 2, hX.blk.cell 3, hX.blk.cell 4, hX.blk.cell 5, hX.blk.cell 6, hX.blk.cell 7, hX.blk.cell 8, hX.blk.cell 9⟩ (fun hHeld => ?_)
  clear hK K
  clear h5 h6 h7 h8 h9
  try simp only [Act.put, List.setIfInBounds_toArray, List.set_cons_zero, List.set_cons_succ]
  have h5 := g5
  have h6 := g6
  have h7 := g7
  have h8 := g8
  have h9 := g9
  clear g5 g6 g7 g8 g9
  refine wpAnyH_ready (rs := [11]) (by kernel_rfl) (by simp) ?_
  refine AllReadyH.cons (o := { dst := none, op := Op.store 31 (Operand.tmp 6) (Operand.tmp 36), type := 0, pos := "law.go:327", after := #[{ on := 6, ground := Ground.data }, { on := 1, ground := Ground.data }, { on := 10, ground := Ground.chain }, { on := 0, ground := Ground.phase }, { on := 1, ground := Ground.phase }, { on := 2, ground := Ground.textOnly Departure.lateStores }, { on := 3, ground := Ground.textOnly Departure.lateStores }, { on := 4, ground := Ground.textOnly Departure.lateStores }, { on := 5, ground := Ground.phase }, { on := 6, ground := Ground.phase }, { on := 7, ground := Ground.phase }, { on := 8, ground := Ground.phase }, { on := 9, ground := Ground.phase }, { on := 10, ground := Ground.phase }], guard := none }) (by kernel_rfl) (fun K hK => ?_) AllReadyH.nil
  refine step_store_row rfl 31 (.tmp 6) (.tmp 36) rfl b6 #[.slice A0 n0 c0, .slice A1 n1 c1, .slice A2 n2 c2, .int .i64 tab, .slice A4 n4 c4, .slice A5 n5 c5, .slice A6 n6 c6, .int .i64 start, .slice A8 n8 c8, .slice A9 n9 c9] rfl rfl 31 _ h6.1 (by kernel_rfl) rfl (by simp [Value.oneCell']) ?_
  have hX : BxC W.drew _ bx #[.slice A0 n0 c0, .slice A1 n1 c1, .slice A2 n2 c2, .int .i64 tab, .slice A4 n4 c4, .slice A5 n5 c5, .slice A6 n6 c6, .int .i64 start, .slice A8 n8 c8, .slice A9 n9 c9] := ⟨below_setRow hX.1 h6.2 #[.slice A0 n0 c0, .slice A1 n1 c1, .slice A2 n2 c2, .int .i64 tab, .slice A4 n4 c4, .slice A5 n5 c5, .slice A6 n6 c6, .int .i64 start, .slice A8 n8 c8, .slice A9 n9 c9], hX.2⟩
  have g5 := h5.row (b' := b6) (cs' := #[.slice A0 n0 c0, .slice A1 n1 c1, .slice A2 n2 c2, .int .i64 tab, .slice A4 n4 c4, .slice A5 n5 c5, .slice A6 n6 c6, .int .i64 start, .slice A8 n8 c8, .slice A9 n9 c9]) h56
  have g6 : Nb W.drew _ b6 #[.slice A0 n0 c0, .slice A1 n1 c1, .slice A2 n2 c2, .int .i64 tab, .slice A4 n4 c4, .slice A5 n5 c5, .slice A6 n6 c6, .int .i64 start, .slice A8 n8 c8, .slice A9 n9 c9] := ⟨setRow_heap _ b6 _ #[.slice A0 n0 c0, .slice A1 n1 c1, .slice A2 n2 c2, .int .i64 tab, .slice A4 n4 c4, .slice A5 n5 c5, .slice A6 n6 c6, .int .i64 start, .slice A8 n8 c8, .slice A9 n9 c9] 31 (0, 0) h6.1, h6.2⟩
  have g7 := h7.row (b' := b6) (cs' := #[.slice A0 n0 c0, .slice A1 n1 c1, .slice A2 n2 c2, .int .i64 tab, .slice A4 n4 c4, .slice A5 n5 c5, .slice A6 n6 c6, .int .i64 start, .slice A8 n8 c8, .slice A9 n9 c9]) (Ne.symm h67)
  have g8 := h8.row (b' := b6) (cs' := #[.slice A0 n0 c0, .slice A1 n1 c1, .slice A2 n2 c2, .int .i64 tab, .slice A4 n4 c4, .slice A5 n5 c5, .slice A6 n6 c6, .int .i64 start, .slice A8 n8 c8, .slice A9 n9 c9]) (Ne.symm h68)
  have g9 := h9.row (b' := b6) (cs' := #[.slice A0 n0 c0, .slice A1 n1 c1, .slice A2 n2 c2, .int .i64 tab, .slice A4 n4 c4, .slice A5 n5 c5, .slice A6 n6 c6, .int .i64 start, .slice A8 n8 c8, .slice A9 n9 c9]) (Ne.symm h69)
  refine hK.out _ _ ⟨hX.blk.cell 0, hX.blk.cell 1, hX.blk.cell 2, hX.blk.cell 3, hX.blk.cell 4, hX.blk.cell 5, hX.blk.cell 6, hX.blk.cell 7, hX.blk.cell 8, hX.blk.cell 9⟩ (fun hHeld => ?_)
  clear hK K
  clear h5 h6 h7 h8 h9
  try simp only [Act.put, List.setIfInBounds_toArray, List.set_cons_zero, List.set_cons_succ]
  have h5 := g5
  have h6 := g6
  have h7 := g7
  have h8 := g8
  have h9 := g9
  clear g5 g6 g7 g8 g9
  refine wpAnyH_ready (rs := [12]) (by kernel_rfl) (by simp) ?_
  refine AllReadyH.cons (o := { dst := none, op := Op.store 31 (Operand.tmp 7) (Operand.tmp 37), type := 0, pos := "law.go:327", after := #[{ on := 7, ground := Ground.data }, { on := 2, ground := Ground.data }, { on := 11, ground := Ground.chain }, { on := 0, ground := Ground.phase }, { on := 1, ground := Ground.phase }, { on := 2, ground := Ground.phase }, { on := 3, ground := Ground.textOnly Departure.lateStores }, { on := 4, ground := Ground.textOnly Departure.lateStores }, { on := 5, ground := Ground.phase }, { on := 6, ground := Ground.phase }, { on := 7, ground := Ground.phase }, { on := 8, ground := Ground.phase }, { on := 9, ground := Ground.phase }, { on := 10, ground := Ground.phase }, { on := 11, ground := Ground.phase }], guard := none }) (by kernel_rfl) (fun K hK => ?_) AllReadyH.nil
  refine step_store_row rfl 31 (.tmp 7) (.tmp 37) rfl b7 #[.slice A0 n0 c0, .slice A1 n1 c1, .slice A2 n2 c2, .int .i64 tab, .slice A4 n4 c4, .slice A5 n5 c5, .slice A6 n6 c6, .int .i64 start, .slice A8 n8 c8, .slice A9 n9 c9] rfl rfl 31 _ h7.1 (by kernel_rfl) rfl (by simp [Value.oneCell']) ?_
  have hX : BxC W.drew _ bx #[.slice A0 n0 c0, .slice A1 n1 c1, .slice A2 n2 c2, .int .i64 tab, .slice A4 n4 c4, .slice A5 n5 c5, .slice A6 n6 c6, .int .i64 start, .slice A8 n8 c8, .slice A9 n9 c9] := ⟨below_setRow hX.1 h7.2 #[.slice A0 n0 c0, .slice A1 n1 c1, .slice A2 n2 c2, .int .i64 tab, .slice A4 n4 c4, .slice A5 n5 c5, .slice A6 n6 c6, .int .i64 start, .slice A8 n8 c8, .slice A9 n9 c9], hX.2⟩
  have g5 := h5.row (b' := b7) (cs' := #[.slice A0 n0 c0, .slice A1 n1 c1, .slice A2 n2 c2, .int .i64 tab, .slice A4 n4 c4, .slice A5 n5 c5, .slice A6 n6 c6, .int .i64 start, .slice A8 n8 c8, .slice A9 n9 c9]) h57
  have g6 := h6.row (b' := b7) (cs' := #[.slice A0 n0 c0, .slice A1 n1 c1, .slice A2 n2 c2, .int .i64 tab, .slice A4 n4 c4, .slice A5 n5 c5, .slice A6 n6 c6, .int .i64 start, .slice A8 n8 c8, .slice A9 n9 c9]) h67
  have g7 : Nb W.drew _ b7 #[.slice A0 n0 c0, .slice A1 n1 c1, .slice A2 n2 c2, .int .i64 tab, .slice A4 n4 c4, .slice A5 n5 c5, .slice A6 n6 c6, .int .i64 start, .slice A8 n8 c8, .slice A9 n9 c9] := ⟨setRow_heap _ b7 _ #[.slice A0 n0 c0, .slice A1 n1 c1, .slice A2 n2 c2, .int .i64 tab, .slice A4 n4 c4, .slice A5 n5 c5, .slice A6 n6 c6, .int .i64 start, .slice A8 n8 c8, .slice A9 n9 c9] 31 (0, 0) h7.1, h7.2⟩
  have g8 := h8.row (b' := b7) (cs' := #[.slice A0 n0 c0, .slice A1 n1 c1, .slice A2 n2 c2, .int .i64 tab, .slice A4 n4 c4, .slice A5 n5 c5, .slice A6 n6 c6, .int .i64 start, .slice A8 n8 c8, .slice A9 n9 c9]) (Ne.symm h78)
  have g9 := h9.row (b' := b7) (cs' := #[.slice A0 n0 c0, .slice A1 n1 c1, .slice A2 n2 c2, .int .i64 tab, .slice A4 n4 c4, .slice A5 n5 c5, .slice A6 n6 c6, .int .i64 start, .slice A8 n8 c8, .slice A9 n9 c9]) (Ne.symm h79)
  refine hK.out _ _ ⟨hX.blk.cell 0, hX.blk.cell 1, hX.blk.cell 2, hX.blk.cell 3, hX.blk.cell 4, hX.blk.cell 5, hX.blk.cell 6, hX.blk.cell 7, hX.blk.cell 8, hX.blk.cell 9⟩ (fun hHeld => ?_)
  clear hK K
  clear h5 h6 h7 h8 h9
  try simp only [Act.put, List.setIfInBounds_toArray, List.set_cons_zero, List.set_cons_succ]
  have h5 := g5
  have h6 := g6
  have h7 := g7
  have h8 := g8
  have h9 := g9
  clear g5 g6 g7 g8 g9
  refine wpAnyH_ready (rs := [13]) (by kernel_rfl) (by simp) ?_
  refine AllReadyH.cons (o := { dst := none, op := Op.store 31 (Operand.tmp 8) (Operand.tmp 38), type := 0, pos := "law.go:327", after := #[{ on := 8, ground := Ground.data }, { on := 3, ground := Ground.data }, { on := 12, ground := Ground.chain }, { on := 0, ground := Ground.phase }, { on := 1, ground := Ground.phase }, { on := 2, ground := Ground.phase }, { on := 3, ground := Ground.phase }, { on := 4, ground := Ground.textOnly Departure.lateStores }, { on := 5, ground := Ground.phase }, { on := 6, ground := Ground.phase }, { on := 7, ground := Ground.phase }, { on := 8, ground := Ground.phase }, { on := 9, ground := Ground.phase }, { on := 10, ground := Ground.phase }, { on := 11, ground := Ground.phase }, { on := 12, ground := Ground.phase }], guard := none }) (by kernel_rfl) (fun K hK => ?_) AllReadyH.nil
  refine step_store_row rfl 31 (.tmp 8) (.tmp 38) rfl b8 #[.slice A0 n0 c0, .slice A1 n1 c1, .slice A2 n2 c2, .int .i64 tab, .slice A4 n4 c4, .slice A5 n5 c5, .slice A6 n6 c6, .int .i64 start, .slice A8 n8 c8, .slice A9 n9 c9] rfl rfl 31 _ h8.1 (by kernel_rfl) rfl (by simp [Value.oneCell']) ?_
  have hX : BxC W.drew _ bx #[.slice A0 n0 c0, .slice A1 n1 c1, .slice A2 n2 c2, .int .i64 tab, .slice A4 n4 c4, .slice A5 n5 c5, .slice A6 n6 c6, .int .i64 start, .slice A8 n8 c8, .slice A9 n9 c9] := ⟨below_setRow hX.1 h8.2 #[.slice A0 n0 c0, .slice A1 n1 c1, .slice A2 n2 c2, .int .i64 tab, .slice A4 n4 c4, .slice A5 n5 c5, .slice A6 n6 c6, .int .i64 start, .slice A8 n8 c8, .slice A9 n9 c9], hX.2⟩
  have g5 := h5.row (b' := b8) (cs' := #[.slice A0 n0 c0, .slice A1 n1 c1, .slice A2 n2 c2, .int .i64 tab, .slice A4 n4 c4, .slice A5 n5 c5, .slice A6 n6 c6, .int .i64 start, .slice A8 n8 c8, .slice A9 n9 c9]) h58
  have g6 := h6.row (b' := b8) (cs' := #[.slice A0 n0 c0, .slice A1 n1 c1, .slice A2 n2 c2, .int .i64 tab, .slice A4 n4 c4, .slice A5 n5 c5, .slice A6 n6 c6, .int .i64 start, .slice A8 n8 c8, .slice A9 n9 c9]) h68
  have g7 := h7.row (b' := b8) (cs' := #[.slice A0 n0 c0, .slice A1 n1 c1, .slice A2 n2 c2, .int .i64 tab, .slice A4 n4 c4, .slice A5 n5 c5, .slice A6 n6 c6, .int .i64 start, .slice A8 n8 c8, .slice A9 n9 c9]) h78
  have g8 : Nb W.drew _ b8 #[.slice A0 n0 c0, .slice A1 n1 c1, .slice A2 n2 c2, .int .i64 tab, .slice A4 n4 c4, .slice A5 n5 c5, .slice A6 n6 c6, .int .i64 start, .slice A8 n8 c8, .slice A9 n9 c9] := ⟨setRow_heap _ b8 _ #[.slice A0 n0 c0, .slice A1 n1 c1, .slice A2 n2 c2, .int .i64 tab, .slice A4 n4 c4, .slice A5 n5 c5, .slice A6 n6 c6, .int .i64 start, .slice A8 n8 c8, .slice A9 n9 c9] 31 (0, 0) h8.1, h8.2⟩
  have g9 := h9.row (b' := b8) (cs' := #[.slice A0 n0 c0, .slice A1 n1 c1, .slice A2 n2 c2, .int .i64 tab, .slice A4 n4 c4, .slice A5 n5 c5, .slice A6 n6 c6, .int .i64 start, .slice A8 n8 c8, .slice A9 n9 c9]) (Ne.symm h89)
  refine hK.out _ _ ⟨hX.blk.cell 0, hX.blk.cell 1, hX.blk.cell 2, hX.blk.cell 3, hX.blk.cell 4, hX.blk.cell 5, hX.blk.cell 6, hX.blk.cell 7, hX.blk.cell 8, hX.blk.cell 9⟩ (fun hHeld => ?_)
  clear hK K
  clear h5 h6 h7 h8 h9
  try simp only [Act.put, List.setIfInBounds_toArray, List.set_cons_zero, List.set_cons_succ]
  have h5 := g5
  have h6 := g6
  have h7 := g7
  have h8 := g8
  have h9 := g9
  clear g5 g6 g7 g8 g9
  refine wpAnyH_ready (rs := [14]) (by kernel_rfl) (by simp) ?_
  refine AllReadyH.cons (o := { dst := none, op := Op.store 31 (Operand.tmp 9) (Operand.tmp 39), type := 0, pos := "law.go:327", after := #[{ on := 9, ground := Ground.data }, { on := 4, ground := Ground.data }, { on := 13, ground := Ground.chain }, { on := 0, ground := Ground.phase }, { on := 1, ground := Ground.phase }, { on := 2, ground := Ground.phase }, { on := 3, ground := Ground.phase }, { on := 4, ground := Ground.phase }, { on := 5, ground := Ground.phase }, { on := 6, ground := Ground.phase }, { on := 7, ground := Ground.phase }, { on := 8, ground := Ground.phase }, { on := 9, ground := Ground.phase }, { on := 10, ground := Ground.phase }, { on := 11, ground := Ground.phase }, { on := 12, ground := Ground.phase }, { on := 13, ground := Ground.phase }], guard := none }) (by kernel_rfl) (fun K hK => ?_) AllReadyH.nil
  refine step_store_row rfl 31 (.tmp 9) (.tmp 39) rfl b9 #[.slice A0 n0 c0, .slice A1 n1 c1, .slice A2 n2 c2, .int .i64 tab, .slice A4 n4 c4, .slice A5 n5 c5, .slice A6 n6 c6, .int .i64 start, .slice A8 n8 c8, .slice A9 n9 c9] rfl rfl 31 _ h9.1 (by kernel_rfl) rfl (by simp [Value.oneCell']) ?_
  have hX : BxC W.drew _ bx #[.slice A0 n0 c0, .slice A1 n1 c1, .slice A2 n2 c2, .int .i64 tab, .slice A4 n4 c4, .slice A5 n5 c5, .slice A6 n6 c6, .int .i64 start, .slice A8 n8 c8, .slice A9 n9 c9] := ⟨below_setRow hX.1 h9.2 #[.slice A0 n0 c0, .slice A1 n1 c1, .slice A2 n2 c2, .int .i64 tab, .slice A4 n4 c4, .slice A5 n5 c5, .slice A6 n6 c6, .int .i64 start, .slice A8 n8 c8, .slice A9 n9 c9], hX.2⟩
  have g5 := h5.row (b' := b9) (cs' := #[.slice A0 n0 c0, .slice A1 n1 c1, .slice A2 n2 c2, .int .i64 tab, .slice A4 n4 c4, .slice A5 n5 c5, .slice A6 n6 c6, .int .i64 start, .slice A8 n8 c8, .slice A9 n9 c9]) h59
  have g6 := h6.row (b' := b9) (cs' := #[.slice A0 n0 c0, .slice A1 n1 c1, .slice A2 n2 c2, .int .i64 tab, .slice A4 n4 c4, .slice A5 n5 c5, .slice A6 n6 c6, .int .i64 start, .slice A8 n8 c8, .slice A9 n9 c9]) h69
  have g7 := h7.row (b' := b9) (cs' := #[.slice A0 n0 c0, .slice A1 n1 c1, .slice A2 n2 c2, .int .i64 tab, .slice A4 n4 c4, .slice A5 n5 c5, .slice A6 n6 c6, .int .i64 start, .slice A8 n8 c8, .slice A9 n9 c9]) h79
  have g8 := h8.row (b' := b9) (cs' := #[.slice A0 n0 c0, .slice A1 n1 c1, .slice A2 n2 c2, .int .i64 tab, .slice A4 n4 c4, .slice A5 n5 c5, .slice A6 n6 c6, .int .i64 start, .slice A8 n8 c8, .slice A9 n9 c9]) h89
  have g9 : Nb W.drew _ b9 #[.slice A0 n0 c0, .slice A1 n1 c1, .slice A2 n2 c2, .int .i64 tab, .slice A4 n4 c4, .slice A5 n5 c5, .slice A6 n6 c6, .int .i64 start, .slice A8 n8 c8, .slice A9 n9 c9] := ⟨setRow_heap _ b9 _ #[.slice A0 n0 c0, .slice A1 n1 c1, .slice A2 n2 c2, .int .i64 tab, .slice A4 n4 c4, .slice A5 n5 c5, .slice A6 n6 c6, .int .i64 start, .slice A8 n8 c8, .slice A9 n9 c9] 31 (0, 0) h9.1, h9.2⟩
  refine hK.out _ _ ⟨hX.blk.cell 0, hX.blk.cell 1, hX.blk.cell 2, hX.blk.cell 3, hX.blk.cell 4, hX.blk.cell 5, hX.blk.cell 6, hX.blk.cell 7, hX.blk.cell 8, hX.blk.cell 9⟩ (fun hHeld => ?_)
  clear hK K
  clear h5 h6 h7 h8 h9
  try simp only [Act.put, List.setIfInBounds_toArray, List.set_cons_zero, List.set_cons_succ]
  have h5 := g5
  have h6 := g6
  have h7 := g7
  have h8 := g8
  have h9 := g9
  clear g5 g6 g7 g8 g9
  refine wpAnyH_done (by kernel_rfl) ?_ _
  refine NoPanic.normal ?_
  exact HN.out _ b5 b6 b7 b8 b9 hX h5 h6 h7 h8 h9 h56 h57 h58 h59 h67 h68 h69 h78 h79 h89
end Go.Proofs.Ytackompihengfaa
