/-
  valid.First and valid.Is of no module; valid.Is of a fit one without functions.
-/
import Derived.Test.YtahbnhhdpcieiaaGreatDoorRa
namespace Go.Proofs.YtahbnhhdpcieiaaGreatDoor
open Go.RowKit Go.Shelf
set_option linter.unusedVariables false
set_option linter.unusedSimpArgs false
theorem region_in_list {P : Program} {ops : Array Oper} {Q : Exit → Act → World → Prop} {l n id : Nat} {a : Act} {w : World} (hd : ndf ops) (hq : ¬ LetsOut Q) (h : wpList P ops Q ops.toList a w) : (Code.region id ops false).wpIn (Fence.wide.inRound l) n P Q a w :=
  region_in hd hq (by rw [List.range_eq_range', ← Array.length_toList, wpOps_eq_wpList ops.toList 0 (by simp)]; exact h)
set_option maxHeartbeats 2000000 in
set_option maxRecDepth 100000 in
theorem First_nil (w : World) : Calls Tryz.prog 68 #[.pointer none] w fun e w' => e = .returned (.tuple #[.agg N183, .bool true]) ∧ Below w.heap.size w w' := by
  refine callsIn_wide.1 (callsIn_of_wp_marks (n := 3) Tryz.func68 rfl trivial (wpIn_wide.2 ?_))
  simp only [Tryz.ntmps68, List.size_toArray, List.length_cons, List.length_nil, Nat.reduceAdd, Nat.reduceSub, Array.replicate_succ, Array.replicate_zero, List.push_toArray, List.append_toArray, List.nil_append, List.cons_append]
  go_wp2_with (go_at_call 114; (refine (findings_ok _ _).mono ?_); rintro e w1 ⟨rfl, hw1⟩; have HW1 := Lib.hid hw1; clear hw1)
  have hw1 := HW1.out
  have hs1 : w1.heap.size = w.heap.size + 3 := by rw [← hw1]; simp
  have hB1 : Below w.heap.size w w1 := by rw [← hw1]; exact (((Below.refl _ w).alloc (Nat.le_refl _) _).alloc (by simp) _).alloc (by simp; omega) _
  have hb0 : Blk w1 w.heap.size 183 Z183 := by rw [← hw1]; exact ((Blk.new w 183 _).alloc _).alloc _
  have hb1 : Blk w1 (w.heap.size + 1) 4 #[.bool false] := by
    rw [← hw1]
    have h := (Blk.new (w.alloc (Obj.cells #[Value.string { data := #[] }, Value.int IntKind.i64 0, Value.int IntKind.i64 0, Value.int IntKind.i64 0] 183)) 4 #[.bool false])
    rw [World.size_alloc] at h
    exact h.alloc _
  have hb2 : Blk w1 (w.heap.size + 2) 43 #[.pointer none] := by
    rw [← hw1]
    have h := (Blk.new ((w.alloc (Obj.cells #[Value.string { data := #[] }, Value.int IntKind.i64 0, Value.int IntKind.i64 0, Value.int IntKind.i64 0] 183)).alloc (Obj.cells #[Value.bool false] 4)) 43 #[.pointer none])
    rw [World.size_alloc, World.size_alloc] at h
    exact h
  have HH := Lib.hid (And.intro hs1 (And.intro hB1 (And.intro hb0 (And.intro hb1 hb2))))
  clear hw1 HW1 hs1 hB1 hb0 hb1 hb2
  refine wpIn_wide.1 (range_one (m := 1) 3 (w.heap.size + 2) rfl (.agg N183) N183 rfl rfl
    (fun W => Blk W w.heap.size 183 N183 ∧ Blk W (w.heap.size + 1) 4 #[.bool true] ∧ Below w.heap.size w W)
    (fun W W' hX hf => ?_)
    (fun bx => { tmps := #[.pointer none, undef, .pointer (some ⟨w.heap.size, 0, none⟩), .pointer (some ⟨w.heap.size + 1, 0, none⟩), .pointer (some ⟨bx, 0, none⟩), .pointer none, .func (.func 138) #[] #[.pointer (some ⟨w.heap.size + 1 + 1, 0, none⟩)], .agg N183, undef, undef], defers := [] })
    (fun l W R hW hY => ?_) (fun W K hW hK => ?_) (fun W hW hsW hbx => ?_) (fun W hX hD => ?_))
  · have hs1 := HH.out.1
    exact ⟨hX.1.fr hf (by omega), hX.2.1.fr hf (by omega), hf.below hX.2.2 hX.2.2.size (fun k hk => by omega)⟩
  · exact it_nil 1 l _ W R (HH.out.2.2.2.2.below hW HH.out.2.2.2.2.lt) hY
  · refine region_in_list (ndf_of (by kernel_rfl)) (by rintro ⟨_, _, h⟩; exact h) ?_
    unfold N183 at hK ⊢
    go_wp2
    exact hK
  · have HX := Lib.hid hbx
    have H0 := Lib.hid (HH.out.2.2.1.below hW HH.out.2.2.1.lt)
    have H1 := Lib.hid (HH.out.2.2.2.1.below hW HH.out.2.2.2.1.lt)
    have HW := Lib.hid hW
    have HS := Lib.hid hsW
    have d1 : ∀ q, (W.setRow w.heap.size q).cell? ⟨w.heap.size + 1, 0, none⟩ = some (.bool false) := fun q => (H1.out.fr (fr_setRow W _ q) (by omega)).cell 0
    have z1 : ∀ q, (W.setRow w.heap.size q).frozen? ⟨w.heap.size + 1, 0, none⟩ = false := fun q => (H1.out.fr (fr_setRow W _ q) (by omega)).frozen 0
    have y0 : W.cell? ⟨w1.heap.size + 2, 0, none⟩ = some (.string ⟨#[]⟩) := hbx.cell 0
    have y1 : W.cell? ⟨w1.heap.size + 2, 1, none⟩ = some (.int .i64 (-1)) := hbx.cell 1
    have y2 : W.cell? ⟨w1.heap.size + 2, 2, none⟩ = some (.int .i64 0) := hbx.cell 2
    have y3 : W.cell? ⟨w1.heap.size + 2, 3, none⟩ = some (.int .i64 12) := hbx.cell 3
    clear hbx hW hsW
    refine wpIn_block ?_
    refine wpIn_seq ?_
    refine region_in_list (ndf_of (by kernel_rfl)) (by rintro ⟨_, _, h⟩; cases h.1) ?_
    go_wp2_with (with_reducible refine wpList_store183 rfl (.tmp 2) (.tmp 8) rfl w.heap.size Z183 _ _ _ _ rfl rfl H0.out (Lib.hid rfl) ?_)
    refine wpIn_ret ?_
    obtain ⟨W5, hW5⟩ : ∃ W5, W5 = (W.setRow w.heap.size N183).setCell ⟨w.heap.size + 1, 0, none⟩ (.bool true) := ⟨_, rfl⟩
    have hs1 := HH.out.1
    have hF5 : Fr (fun q => q = w.heap.size ∨ q = w.heap.size + 1) W W5 := by
      rw [hW5]
      exact ((fr_setRow W w.heap.size _).more (fun q hq => .inl hq)).set_ (p := ⟨w.heap.size + 1, 0, none⟩) (.inr rfl) _
    have hb0 : Blk W5 w.heap.size 183 N183 := by
      rw [hW5]
      exact Blk.far (setRow_heap W w.heap.size Z183 N183 183 (0, 0) H0.out) (p := ⟨w.heap.size + 1, 0, none⟩) (by show w.heap.size ≠ w.heap.size + 1; omega) _
    have hb1 : Blk W5 (w.heap.size + 1) 4 #[.bool true] := by
      rw [hW5]
      exact ((H1.out.fr (fr_setRow W w.heap.size _) (by omega)).set_ 0 _)
    have hBW := HH.out.2.1.trans (HW.out.mono HH.out.2.1.size)
    have hS := HS.out
    unfold N183 at hW5
    simp only [Exit.inBlock]
    rw [← hW5]
    refine ⟨trivial, ⟨hb0, hb1, hF5.below hBW hBW.size (fun k hk => by omega)⟩, fun q hq => hF5.block q (by omega) (by omega), hF5.size⟩
  · have hF6 : Fr (fun q => q = w1.heap.size) W (W.putObj w1.heap.size (.deferred none)) := (Fr.refl _ W).putObj _ rfl
    have hs1 := HH.out.1
    refine wpIn_ret ?_
    simp only [Exit.inBlock, Exit.then]
    refine ⟨by simp, .inl ⟨_, _, rfl, run_takeDeferred hD, ?_⟩⟩
    obtain ⟨W6, hW6⟩ : ∃ W6, W6 = W.putObj w1.heap.size (.deferred none) := ⟨_, rfl⟩
    rw [← hW6] at hF6 ⊢
    have hc0 := hX.1.fr hF6 (by omega)
    have hc1 := (hX.2.1.fr hF6 (by omega)).cell 0
    exact ⟨.tuple #[.agg N183, .bool true], res68 _ _ _ _ _ _ rfl rfl hc0 rfl hc1, rfl, hF6.below hX.2.2 hX.2.2.size (fun k hk => by omega)⟩
set_option maxRecDepth 100000 in
theorem Is_nil (w : World) : Calls Tryz.prog 36 #[.pointer none] w fun e w' => e = .returned (.bool false) ∧ Below w.heap.size w w' := by
  have HF := Lib.hid (First_nil w)
  unfold N183 at HF
  go_enter Tryz.func36, Tryz.ntmps36
  go_wp2_with (go_at_call 68; (refine HF.out.mono ?_); rintro e w1 ⟨rfl, hb1⟩; have HB1 := Lib.hid hb1; clear hb1)
  go_ret
  exact ⟨rfl, HB1.out.alloc HB1.out.size _⟩
set_option maxRecDepth 100000 in
theorem Is_none (g : Nat) (cs : Array Value) (w : World) (hm : Blk w g 92 cs) (h2 : cs[2]? = some (.slice none 0 0))
    (hF : ∀ W, Below w.heap.size w W → Calls Tryz.prog 139 #[.pointer (some ⟨g, 0, none⟩)] W fun e w' => e = .returned (.tuple #[.string ⟨#[]⟩, .int .i64 0]) ∧ Below W.heap.size W w') :
    Calls Tryz.prog 36 #[.pointer (some ⟨g, 0, none⟩)] w fun e w' => e = .returned (.bool true) ∧ Below w.heap.size w w' := by
  have HF := Lib.hid (First_none g cs w hm h2 hF)
  unfold Z183 at HF
  clear hm h2 hF
  go_enter Tryz.func36, Tryz.ntmps36
  go_wp2_with (go_at_call 68; (refine HF.out.mono ?_); rintro e w1 ⟨rfl, hb1⟩; have HB1 := Lib.hid hb1; clear hb1)
  go_ret
  exact ⟨rfl, HB1.out.alloc HB1.out.size _⟩
theorem Is_two (g b : Nat) (w : World) (hm : Blk w g 92 (ZG (.slice (some ⟨b, 0, none⟩) 2 2))) (hb : Blk w b 60 G2) : Calls Tryz.prog 36 #[.pointer (some ⟨g, 0, none⟩)] w fun e w' => e = .returned (.bool true) ∧ Below w.heap.size w w' :=
  Is_none g _ w hm rfl (fun W hW => Fit_two g b W (hm.below hW hm.lt) (hb.below hW hb.lt))
end Go.Proofs.YtahbnhhdpcieiaaGreatDoor
