/-
  frame.Frames.put.
-/
import Derived.Test.YthfdblpodnodcaaUb
namespace Go.Proofs.Ythfdblpodnodcaa
open Go.RowKit
set_option linter.unusedVariables false
set_option linter.unusedSimpArgs false
section
variable {w : World} {a bb rm gm : Nat} {d : Ad} {s at_ most h : Nat}
def FpPost (a bb rm gm : Nat) (d : Ad) (s at_ most h n : Nat) (x : Nat × Nat × Nat) (w : World) (e : Ending) (w' : World) : Prop :=
  e = .returned (.tuple #[]) ∧ FkI w' a bb rm gm (d.fpk (at_ + 12 * n) x 3) s at_ most h ∧ Fr (· = bb) w w'
theorem Ad.fpk_succ (d : Ad) (p : Nat) (x : Nat × Nat × Nat) (k : Nat) : (d.fpk p x k).cpy (p + 4 * k) (leN (tri x k) 4) = d.fpk p x (k + 1) := rfl
theorem idx94 (x : Nat × Nat × Nat) (k : Nat) (hk : k < 3) (w : World) : (Instr.index 94 (.agg (Tri x)) (.int .i64 k)).run Try.prog w = .ok (.int .i64 (tri x k)) w := by
  obtain ⟨x1, x2, x3⟩ := x
  rcases (by omega : k = 0 ∨ k = 1 ∨ k = 2) with rfl | rfl | rfl <;> kernel_rfl
set_option maxHeartbeats 1000000 in
set_option maxRecDepth 100000 in
theorem fput_ok (H : FkI w a bb rm gm d s at_ most h) (n : Nat) (hn : n < most) (x : Nat × Nat × Nat) (hx : Rt x) : Calls Try.prog 48 #[.pointer (some ⟨s, 0, none⟩), .int .i64 n, .agg (Tri x)] w (FpPost a bb rm gm d s at_ most h n x w) := by
  have h1 := H.hc
  have h2 := H.room
  have h3 := H.are.lim
  have HS := Lib.hid (H.below (below_alloc w (.cells (Tri x) 58)))
  obtain ⟨hx1, hx2, hx3⟩ := hx
  have HI := Lib.hid (idx94 x)
  clear H
  unfold Tri at HI HS ⊢
  go_enter Try.func48, Try.ntmps48
  go_wp2
  go_loopw [6, 7, 15] (fun v6 v7 v15 wr => ∃ k : Nat, k ≤ 3 ∧ v15 = .int .i64 k ∧ Hid (FkI wr a bb rm gm (d.fpk (at_ + 12 * n) x k) s at_ most h) ∧ Hid (Fr (· = bb) w wr)) (fun _ _ v15 _ => 3 - (intOf v15).toNat)
  case atStart => exact ⟨0, by omega, rfl, HS, Lib.hid (Fr.of_below (below_alloc w _))⟩
  case round =>
    obtain ⟨k, hk, rfl, HQ, HF⟩ := hrel
    by_cases hlt : k < 3
    · have c0 : wr.drew.cell? ⟨s, 0, none⟩ = some (.pointer (some ⟨a, 0, none⟩)) := HQ.out.blk.cell 0
      have c1 : wr.drew.cell? ⟨s, 1, none⟩ = some (.int .i64 at_) := HQ.out.blk.cell 1
      have ht : tri x k < 4294967296 := by
        rcases (by omega : k = 0 ∨ k = 1 ∨ k = 2) with rfl | rfl | rfl
        · exact hx1
        · exact hx2
        · exact hx3
      have HP := Put_ok a bb rm gm (d.fpk (at_ + 12 * n) x k) (at_ + 12 * n + 4 * k) 4 (tri x k) wr.drew (HQ.out.are.drewN 1) (.inl rfl) (by show at_ + 12 * n + 4 * k + 4 ≤ d.sz; omega) (by omega)
      unfold PuPost at HP
      rw [Ad.fpk_succ] at HP
      have ei := fun w => HI.out k hlt w
      obtain ⟨y, ey⟩ : ∃ y, y = tri x k := ⟨_, rfl⟩
      obtain ⟨p, hp⟩ : ∃ p, p = 12 * n := ⟨_, rfl⟩
      obtain ⟨q, hq⟩ : ∃ q, q = at_ + p := ⟨_, rfl⟩
      obtain ⟨r, hr⟩ : ∃ r, r = 4 * k := ⟨_, rfl⟩
      obtain ⟨t, htt⟩ : ∃ t, t = q + r := ⟨_, rfl⟩
      have e1 : IntKind.i64.wrap (12 * (n : Int)) = (p : Int) := by rw [IntWalk.i64_in _ (by omega)]; omega
      have e2 : IntKind.i64.wrap ((at_ : Int) + (p : Int)) = (q : Int) := by rw [IntWalk.i64_in _ (by omega)]; omega
      have e3 : IntKind.i64.wrap (4 * (k : Int)) = (r : Int) := by rw [IntWalk.i64_in _ (by omega)]; omega
      have e4 : IntKind.i64.wrap ((q : Int) + (r : Int)) = (t : Int) := by rw [IntWalk.i64_in _ (by omega)]; omega
      rw [← ey] at HP ht ei
      have e5 : IntKind.u64.wrap (y : Int) = (y : Int) := by rw [IntKind.wrap_u64]; omega
      rw [show at_ + 12 * n + 4 * k = t by omega] at HP
      have HP := Lib.hid HP
      have HEY := Lib.hid ey
      clear ey hp hq hr htt
      go_wp2
      refine wp_region_held_drew (S := (fun W => W.cell? ⟨s, 0, none⟩ = some (.pointer (some ⟨a, 0, none⟩)) ∧ W.cell? ⟨s, 1, none⟩ = some (.int .i64 at_))) (by kernel_rfl) ⟨c0, c1⟩ (fun hHeld => ?_)
      refine wpAnyH_take (i := 0) (oi := ?oi_1) (v := ?_) ?hi_1 (by kernel_rfl) ?hf_1 (by kernel_rfl) ?hQ_1 ?hy_1 (by assumption) ?_
      case hi_1 => simp only [List.getElem?_toArray, List.getElem?_cons_zero, List.getElem?_cons_succ]; rfl
      case hf_1 => kernel_rfl
      case hQ_1 => exact fun _ _ _ h => h
      case hy_1 =>
        refine Or.inl ⟨by rfl, ?_⟩
        intro W hSw
        obtain ⟨q0, q1⟩ := hSw
        go_simp
        try with_reducible rfl
      try simp only [Act.put, List.setIfInBounds_toArray, List.set_cons_zero, List.set_cons_succ]
      refine wpAnyH_take (i := 1) (oi := ?oi_2) (v := ?_) ?hi_2 (by kernel_rfl) ?hf_2 (by kernel_rfl) ?hQ_2 ?hy_2 (by assumption) ?_
      case hi_2 => simp only [List.getElem?_toArray, List.getElem?_cons_zero, List.getElem?_cons_succ]; rfl
      case hf_2 => kernel_rfl
      case hQ_2 => exact fun _ _ _ h => h
      case hy_2 =>
        refine Or.inl ⟨by rfl, ?_⟩
        intro W hSw
        obtain ⟨q0, q1⟩ := hSw
        go_simp
        try with_reducible rfl
      try simp only [Act.put, List.setIfInBounds_toArray, List.set_cons_zero, List.set_cons_succ]
      refine wpAnyH_take (i := 2) (oi := ?oi_3) (v := ?_) ?hi_3 (by kernel_rfl) ?hf_3 (by kernel_rfl) ?hQ_3 ?hy_3 (by assumption) ?_
      case hi_3 => simp only [List.getElem?_toArray, List.getElem?_cons_zero, List.getElem?_cons_succ]; rfl
      case hf_3 => kernel_rfl
      case hQ_3 => exact fun _ _ _ h => h
      case hy_3 =>
        refine Or.inl ⟨by rfl, ?_⟩
        intro W hSw
        obtain ⟨q0, q1⟩ := hSw
        go_simp
        try with_reducible rfl
      try simp only [Act.put, List.setIfInBounds_toArray, List.set_cons_zero, List.set_cons_succ]
      refine wpAnyH_take (i := 3) (oi := ?oi_4) (v := ?_) ?hi_4 (by kernel_rfl) ?hf_4 (by kernel_rfl) ?hQ_4 ?hy_4 (by assumption) ?_
      case hi_4 => simp only [List.getElem?_toArray, List.getElem?_cons_zero, List.getElem?_cons_succ]; rfl
      case hf_4 => kernel_rfl
      case hQ_4 => exact fun _ _ _ h => h
      case hy_4 =>
        refine Or.inl ⟨by rfl, ?_⟩
        intro W hSw
        obtain ⟨q0, q1⟩ := hSw
        go_simp
        try with_reducible rfl
      try simp only [Act.put, List.setIfInBounds_toArray, List.set_cons_zero, List.set_cons_succ]
      refine wpAnyH_take (i := 4) (oi := ?oi_5) (v := ?_) ?hi_5 (by kernel_rfl) ?hf_5 (by kernel_rfl) ?hQ_5 ?hy_5 (by assumption) ?_
      case hi_5 => simp only [List.getElem?_toArray, List.getElem?_cons_zero, List.getElem?_cons_succ]; rfl
      case hf_5 => kernel_rfl
      case hQ_5 => exact fun _ _ _ h => h
      case hy_5 =>
        refine Or.inl ⟨by rfl, ?_⟩
        intro W hSw
        obtain ⟨q0, q1⟩ := hSw
        go_simp
        try with_reducible rfl
      try simp only [Act.put, List.setIfInBounds_toArray, List.set_cons_zero, List.set_cons_succ]
      refine wpAnyH_take (i := 5) (oi := ?oi_6) (v := ?_) ?hi_6 (by kernel_rfl) ?hf_6 (by kernel_rfl) ?hQ_6 ?hy_6 (by assumption) ?_
      case hi_6 => simp only [List.getElem?_toArray, List.getElem?_cons_zero, List.getElem?_cons_succ]; rfl
      case hf_6 => kernel_rfl
      case hQ_6 => exact fun _ _ _ h => h
      case hy_6 =>
        refine Or.inl ⟨by rfl, ?_⟩
        intro W hSw
        obtain ⟨q0, q1⟩ := hSw
        go_simp
        try with_reducible rfl
      try simp only [Act.put, List.setIfInBounds_toArray, List.set_cons_zero, List.set_cons_succ]
      refine wpAnyH_take (i := 6) (oi := ?oi_7) (v := ?_) ?hi_7 (by kernel_rfl) ?hf_7 (by kernel_rfl) ?hQ_7 ?hy_7 (by assumption) ?_
      case hi_7 => simp only [List.getElem?_toArray, List.getElem?_cons_zero, List.getElem?_cons_succ]; rfl
      case hf_7 => kernel_rfl
      case hQ_7 => exact fun _ _ _ h => h
      case hy_7 =>
        refine Or.inl ⟨by rfl, ?_⟩
        intro W hSw
        obtain ⟨q0, q1⟩ := hSw
        go_simp
        try with_reducible rfl
      try simp only [Act.put, List.setIfInBounds_toArray, List.set_cons_zero, List.set_cons_succ]
      refine wpAnyH_take (i := 7) (oi := ?oi_8) (v := ?_) ?hi_8 (by kernel_rfl) ?hf_8 (by kernel_rfl) ?hQ_8 ?hy_8 (by assumption) ?_
      case hi_8 => simp only [List.getElem?_toArray, List.getElem?_cons_zero, List.getElem?_cons_succ]; rfl
      case hf_8 => kernel_rfl
      case hQ_8 => exact fun _ _ _ h => h
      case hy_8 =>
        refine Or.inl ⟨by rfl, ?_⟩
        intro W hSw
        obtain ⟨q0, q1⟩ := hSw
        go_simp
        try with_reducible rfl
      try simp only [Act.put, List.setIfInBounds_toArray, List.set_cons_zero, List.set_cons_succ]
      refine wpAnyH_take (i := 8) (oi := ?oi_9) (v := ?_) ?hi_9 (by kernel_rfl) ?hf_9 (by kernel_rfl) ?hQ_9 ?hy_9 (by assumption) ?_
      case hi_9 => simp only [List.getElem?_toArray, List.getElem?_cons_zero, List.getElem?_cons_succ]; rfl
      case hf_9 => kernel_rfl
      case hQ_9 => exact fun _ _ _ h => h
      case hy_9 =>
        refine Or.inl ⟨by rfl, ?_⟩
        intro W hSw
        obtain ⟨q0, q1⟩ := hSw
        go_simp
        try with_reducible rfl
      try simp only [Act.put, List.setIfInBounds_toArray, List.set_cons_zero, List.set_cons_succ]
      refine wpAnyH_take (i := 9) (oi := ?oi_10) (v := ?_) ?hi_10 (by kernel_rfl) ?hf_10 (by kernel_rfl) ?hQ_10 ?hy_10 (by assumption) ?_
      case hi_10 => simp only [List.getElem?_toArray, List.getElem?_cons_zero, List.getElem?_cons_succ]; rfl
      case hf_10 => kernel_rfl
      case hQ_10 => exact fun _ _ _ h => h
      case hy_10 =>
        refine Or.inl ⟨by rfl, ?_⟩
        intro W hSw
        obtain ⟨q0, q1⟩ := hSw
        go_simp
        try with_reducible rfl
      try simp only [Act.put, List.setIfInBounds_toArray, List.set_cons_zero, List.set_cons_succ]
      refine wpAnyH_take (i := 10) (oi := ?oi_11) (v := ?_) ?hi_11 (by kernel_rfl) ?hf_11 (by kernel_rfl) ?hQ_11 ?hy_11 (by assumption) ?_
      case hi_11 => simp only [List.getElem?_toArray, List.getElem?_cons_zero, List.getElem?_cons_succ]; rfl
      case hf_11 => kernel_rfl
      case hQ_11 => exact fun _ _ _ h => h
      case hy_11 =>
        refine Or.inl ⟨by rfl, ?_⟩
        intro W hSw
        obtain ⟨q0, q1⟩ := hSw
        go_simp
        try with_reducible rfl
      try simp only [Act.put, List.setIfInBounds_toArray, List.set_cons_zero, List.set_cons_succ]
      refine wpAnyH_take (i := 11) (oi := ?oi_12) (v := ?_) ?hi_12 (by kernel_rfl) ?hf_12 (by kernel_rfl) ?hQ_12 ?hy_12 (by assumption) ?_
      case hi_12 => simp only [List.getElem?_toArray, List.getElem?_cons_zero, List.getElem?_cons_succ]; rfl
      case hf_12 => kernel_rfl
      case hQ_12 => exact fun _ _ _ h => h
      case hy_12 =>
        refine Or.inl ⟨by rfl, ?_⟩
        intro W hSw
        obtain ⟨q0, q1⟩ := hSw
        go_simp
        try with_reducible rfl
      try simp only [Act.put, List.setIfInBounds_toArray, List.set_cons_zero, List.set_cons_succ]
      refine wpAnyH_take (i := 12) (oi := ?oi_13) (v := ?_) ?hi_13 (by kernel_rfl) ?hf_13 (by kernel_rfl) ?hQ_13 ?hy_13 (by assumption) ?_
      case hi_13 => simp only [List.getElem?_toArray, List.getElem?_cons_zero, List.getElem?_cons_succ]; rfl
      case hf_13 => kernel_rfl
      case hQ_13 => exact fun _ _ _ h => h
      case hy_13 =>
        refine Or.inl ⟨by rfl, ?_⟩
        intro W hSw
        obtain ⟨q0, q1⟩ := hSw
        go_simp
        try with_reducible rfl
      try simp only [Act.put, List.setIfInBounds_toArray, List.set_cons_zero, List.set_cons_succ]
      refine wpAnyH_take (i := 13) (oi := ?oi_14) (v := ?_) ?hi_14 (by kernel_rfl) ?hf_14 (by kernel_rfl) ?hQ_14 ?hy_14 (by assumption) ?_
      case hi_14 => simp only [List.getElem?_toArray, List.getElem?_cons_zero, List.getElem?_cons_succ]; rfl
      case hf_14 => kernel_rfl
      case hQ_14 => exact fun _ _ _ h => h
      case hy_14 =>
        refine Or.inl ⟨by rfl, ?_⟩
        intro W hSw
        obtain ⟨q0, q1⟩ := hSw
        go_simp
        try with_reducible rfl
      try simp only [Act.put, List.setIfInBounds_toArray, List.set_cons_zero, List.set_cons_succ]
      refine wpAnyH_take (i := 14) (oi := ?oi_15) (v := ?_) ?hi_15 (by kernel_rfl) ?hf_15 (by kernel_rfl) ?hQ_15 ?hy_15 (by assumption) ?_
      case hi_15 => simp only [List.getElem?_toArray, List.getElem?_cons_zero, List.getElem?_cons_succ]; rfl
      case hf_15 => kernel_rfl
      case hQ_15 => exact fun _ _ _ h => h
      case hy_15 =>
        refine Or.inl ⟨by rfl, ?_⟩
        intro W hSw
        obtain ⟨q0, q1⟩ := hSw
        go_simp
        try with_reducible rfl
      try simp only [Act.put, List.setIfInBounds_toArray, List.set_cons_zero, List.set_cons_succ]
      refine wpAnyH_take (i := 15) (oi := ?oi_16) (v := ?_) ?hi_16 (by kernel_rfl) ?hf_16 (by kernel_rfl) ?hQ_16 ?hy_16 (by assumption) ?_
      case hi_16 => simp only [List.getElem?_toArray, List.getElem?_cons_zero, List.getElem?_cons_succ]; rfl
      case hf_16 => kernel_rfl
      case hQ_16 => exact fun _ _ _ h => h
      case hy_16 =>
        refine Or.inl ⟨by rfl, ?_⟩
        intro W hSw
        obtain ⟨q0, q1⟩ := hSw
        go_simp
        try with_reducible rfl
      try simp only [Act.put, List.setIfInBounds_toArray, List.set_cons_zero, List.set_cons_succ]
      refine wpAnyH_ready (rs := [16]) (by kernel_rfl) (by simp) ?_
      refine AllReadyH.cons (o := ?oi_17) ?hi_17 (fun K hK => ?_) AllReadyH.nil
      case hi_17 => simp only [List.getElem?_toArray, List.getElem?_cons_zero, List.getElem?_cons_succ]; rfl
      go_simp
      (go_at_call 52
       refine HP.out.mono ?_
       rintro e w2 ⟨rfl, hA, hF⟩
       have HA2 := Lib.hid hA
       have HF2 := Lib.hid hF
       have hb2 := (HQ.out.drewN 1).blk.fr hF HQ.out.sb
       have HB2 := Lib.hid hb2
       have g0 : w2.cell? ⟨s, 0, none⟩ = some (.pointer (some ⟨a, 0, none⟩)) := hb2.cell 0
       have g1 : w2.cell? ⟨s, 1, none⟩ = some (.int .i64 at_) := hb2.cell 1
       clear hA hF hb2)
      refine hK.out _ _ ⟨g0, g1⟩ (fun hHeld => ?_)
      clear hK K
      try simp only [Act.put, List.setIfInBounds_toArray, List.set_cons_zero, List.set_cons_succ]
      refine wpAnyH_done (by kernel_rfl) ?_ _
      clear hHeld
      simp only [Exit.inBlock, Exit.then]
      go_wp2
      exact ⟨⟨k + 1, by omega, by go_num, Lib.hid ⟨HA2.out, HB2.out, HQ.out.hh, HQ.out.hc, HQ.out.room⟩, Lib.hid (HF.out.trans HF2.out.undrew)⟩, by simp [intOf]; omega⟩
    · obtain rfl : k = 3 := by omega
      go_wp2
      go_end0
      exact ⟨rfl, HQ.out, HF.out⟩
end
end Go.Proofs.Ythfdblpodnodcaa
