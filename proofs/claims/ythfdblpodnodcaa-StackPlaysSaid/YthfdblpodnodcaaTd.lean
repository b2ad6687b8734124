/-
  A stack's Unwind, Close; New.
-/
import Derived.Test.YthfdblpodnodcaaTc
import Derived.IntWalk
import Derived.Deep.RegionHeld3
namespace Go.Proofs.Ythfdblpodnodcaa
open Go.RowKit
set_option linter.unusedVariables false
set_option linter.unusedSimpArgs false
section
variable {w : World} {a bb rm gm : Nat} {d : Ad} {s at_ cells h : Nat}
def CpPost (a bb rm gm : Nat) (d : Ad) (p : Nat) (l : List Nat) (w : World) (e : Ending) (w' : World) : Prop :=
  e = .returned (.int .i64 0) ∧ Are w' a bb rm gm (d.cpy p l) ∧ Fr (· = bb) w w'
theorem Copy_all (a bb rm gm : Nat) (d : Ad) (p n cap : Nat) (A : Option Addr) (l : List Nat) (w : World) (h : Are w a bb rm gm d) (hb : Byt w A n cap l) (hp : p + n ≤ d.sz) :
    Calls Try.prog 44 #[.pointer (some ⟨a, 0, none⟩), .int .i64 p, .slice A n cap] w (CpPost a bb rm gm d p l w) := by
  rcases Nat.eq_zero_or_pos n with rfl | h0
  · obtain rfl : l = [] := List.eq_nil_of_length_eq_zero hb.1
    refine (Copy_zero a bb rm gm d p cap A w h hp hb.2.2.2.1).mono ?_
    rintro e w' ⟨rfl, rfl⟩
    exact ⟨rfl, by rw [Ad.cpy_nil]; exact h, Fr.refl _ _⟩
  · exact Copy_ok a bb rm gm d p n cap A l w h hb h0 hp
def UnPost (a bb rm gm : Nat) (d : Ad) (s at_ cells h n c : Nat) (w : World) (e : Ending) (w' : World) : Prop :=
  e = .returned (.int .i64 0) ∧ SkI w' a bb rm gm (d.cpy (at_ + 8 * c) ((d.mem.drop (at_ + 8 * (h - n))).take (8 * n))) s at_ cells (c + n) ∧ Fr (fun k => k = bb ∨ k = s) w w'
set_option maxHeartbeats 2000000 in
set_option maxRecDepth 100000 in
theorem Unwind_ok (H : SkI w a bb rm gm d s at_ cells h) (n c : Nat) (hn : c + n ≤ h) : Calls Try.prog 22 #[.pointer (some ⟨s, 0, none⟩), .int .i64 n, .int .i64 c] w (UnPost a bb rm gm d s at_ cells h n c w) := by
  have HH := Lib.hid (has_ok H c n hn)
  have h1 := H.hc
  have h2 := H.room
  have h3 := H.hh
  have c0 : w.drew.cell? ⟨s, 0, none⟩ = some (.pointer (some ⟨a, 0, none⟩)) := H.blk.cell 0
  have c3 : w.drew.cell? ⟨s, 3, none⟩ = some (.int .i64 h) := H.blk.cell 3
  have HP := place_ok (H.drewN 1) (h - n) (by omega)
  rw [show ((h - n : Nat) : Int) = IntKind.i64.wrap ((h : Int) - (n : Int)) by rw [IntWalk.i64_in _ (by omega)]; omega] at HP
  have HP := Lib.hid HP
  have HB := Bytes_all a bb rm gm d (at_ + 8 * (h - n)) (8 * n) w.drew (H.are.drewN 1) (by omega)
  unfold BnPost at HB
  rw [show ((8 * n : Nat) : Int) = IntKind.i64.wrap (8 * (n : Int)) by rw [IntWalk.i64_in _ (by omega)]; omega] at HB
  have HB := Lib.hid HB
  have HS := Lib.hid H
  clear H
  go_enter Try.func22, Try.ntmps22
  go_wp2_with (go_at_call 40; refine HH.out.mono ?_; rintro e w' ⟨rfl, rfl⟩)
  refine wp_region_held_drew (S := (fun W => W.cell? ⟨s, 0, none⟩ = some (.pointer (some ⟨a, 0, none⟩)) ∧ W.cell? ⟨s, 3, none⟩ = some (.int .i64 h))) (by kernel_rfl) ⟨c0, c3⟩ (fun hHeld => ?_)
  refine wpAnyH_take (i := 0) (oi := ?oi_1) (v := ?_) ?hi_1 (by kernel_rfl) ?hf_1 (by kernel_rfl) ?hQ_1 ?hy_1 (by assumption) ?_
  case hi_1 => simp only [List.getElem?_toArray, List.getElem?_cons_zero, List.getElem?_cons_succ]; rfl
  case hf_1 => kernel_rfl
  case hQ_1 => exact fun _ _ _ h => h
  case hy_1 =>
    refine Or.inl ⟨by rfl, ?_⟩
    intro W hSw
    obtain ⟨q0, q1⟩ := hSw
    go_simp
    try with_reducible rfl
  try simp only [Act.put, List.setIfInBounds_toArray, List.set_cons_zero, List.set_cons_succ]
  refine wpAnyH_take (i := 1) (oi := ?oi_2) (v := ?_) ?hi_2 (by kernel_rfl) ?hf_2 (by kernel_rfl) ?hQ_2 ?hy_2 (by assumption) ?_
  case hi_2 => simp only [List.getElem?_toArray, List.getElem?_cons_zero, List.getElem?_cons_succ]; rfl
  case hf_2 => kernel_rfl
  case hQ_2 => exact fun _ _ _ h => h
  case hy_2 =>
    refine Or.inl ⟨by rfl, ?_⟩
    intro W hSw
    obtain ⟨q0, q1⟩ := hSw
    go_simp
    try with_reducible rfl
  try simp only [Act.put, List.setIfInBounds_toArray, List.set_cons_zero, List.set_cons_succ]
  refine wpAnyH_take (i := 2) (oi := ?oi_3) (v := ?_) ?hi_3 (by kernel_rfl) ?hf_3 (by kernel_rfl) ?hQ_3 ?hy_3 (by assumption) ?_
  case hi_3 => simp only [List.getElem?_toArray, List.getElem?_cons_zero, List.getElem?_cons_succ]; rfl
  case hf_3 => kernel_rfl
  case hQ_3 => exact fun _ _ _ h => h
  case hy_3 =>
    refine Or.inl ⟨by rfl, ?_⟩
    intro W hSw
    obtain ⟨q0, q1⟩ := hSw
    go_simp
    try with_reducible rfl
  try simp only [Act.put, List.setIfInBounds_toArray, List.set_cons_zero, List.set_cons_succ]
  refine wpAnyH_take (i := 3) (oi := ?oi_4) (v := ?_) ?hi_4 (by kernel_rfl) ?hf_4 (by kernel_rfl) ?hQ_4 ?hy_4 (by assumption) ?_
  case hi_4 => simp only [List.getElem?_toArray, List.getElem?_cons_zero, List.getElem?_cons_succ]; rfl
  case hf_4 => kernel_rfl
  case hQ_4 => exact fun _ _ _ h => h
  case hy_4 =>
    refine Or.inl ⟨by rfl, ?_⟩
    intro W hSw
    obtain ⟨q0, q1⟩ := hSw
    go_simp
    try with_reducible rfl
  try simp only [Act.put, List.setIfInBounds_toArray, List.set_cons_zero, List.set_cons_succ]
  refine wpAnyH_take (i := 4) (oi := ?oi_5) (v := ?_) ?hi_5 (by kernel_rfl) ?hf_5 (by kernel_rfl) ?hQ_5 ?hy_5 (by assumption) ?_
  case hi_5 => simp only [List.getElem?_toArray, List.getElem?_cons_zero, List.getElem?_cons_succ]; rfl
  case hf_5 => kernel_rfl
  case hQ_5 => exact fun _ _ _ h => h
  case hy_5 =>
    refine Or.inl ⟨by rfl, ?_⟩
    intro W hSw
    obtain ⟨q0, q1⟩ := hSw
    go_simp
    try with_reducible rfl
  try simp only [Act.put, List.setIfInBounds_toArray, List.set_cons_zero, List.set_cons_succ]
  refine wpAnyH_take (i := 5) (oi := ?oi_6) (v := ?_) ?hi_6 (by kernel_rfl) ?hf_6 (by kernel_rfl) ?hQ_6 ?hy_6 (by assumption) ?_
  case hi_6 => simp only [List.getElem?_toArray, List.getElem?_cons_zero, List.getElem?_cons_succ]; rfl
  case hf_6 => kernel_rfl
  case hQ_6 => exact fun _ _ _ h => h
  case hy_6 =>
    refine Or.inl ⟨by rfl, ?_⟩
    intro W hSw
    obtain ⟨q0, q1⟩ := hSw
    go_simp
    try with_reducible rfl
  try simp only [Act.put, List.setIfInBounds_toArray, List.set_cons_zero, List.set_cons_succ]
  refine wpAnyH_take (i := 6) (oi := ?oi_7) (v := ?_) ?hi_7 (by kernel_rfl) ?hf_7 (by kernel_rfl) ?hQ_7 ?hy_7 (by assumption) ?_
  case hi_7 => simp only [List.getElem?_toArray, List.getElem?_cons_zero, List.getElem?_cons_succ]; rfl
  case hf_7 => kernel_rfl
  case hQ_7 => exact fun _ _ _ h => h
  case hy_7 =>
    refine Or.inl ⟨by rfl, ?_⟩
    intro W hSw
    obtain ⟨q0, q1⟩ := hSw
    go_simp
    try with_reducible rfl
  try simp only [Act.put, List.setIfInBounds_toArray, List.set_cons_zero, List.set_cons_succ]
  refine wpAnyH_take (i := 7) (oi := ?oi_8) (v := ?_) ?hi_8 (by kernel_rfl) ?hf_8 (by kernel_rfl) ?hQ_8 ?hy_8 (by assumption) ?_
  case hi_8 => simp only [List.getElem?_toArray, List.getElem?_cons_zero, List.getElem?_cons_succ]; rfl
  case hf_8 => kernel_rfl
  case hQ_8 => exact fun _ _ _ h => h
  case hy_8 =>
    refine Or.inl ⟨by rfl, ?_⟩
    intro W hSw
    obtain ⟨q0, q1⟩ := hSw
    go_simp
    try with_reducible rfl
  try simp only [Act.put, List.setIfInBounds_toArray, List.set_cons_zero, List.set_cons_succ]
  refine wpAnyH_take (i := 8) (oi := ?oi_9) (v := ?_) ?hi_9 (by kernel_rfl) ?hf_9 (by kernel_rfl) ?hQ_9 ?hy_9 (by assumption) ?_
  case hi_9 => simp only [List.getElem?_toArray, List.getElem?_cons_zero, List.getElem?_cons_succ]; rfl
  case hf_9 => kernel_rfl
  case hQ_9 => exact fun _ _ _ h => h
  case hy_9 =>
    refine Or.inl ⟨by rfl, ?_⟩
    intro W hSw
    obtain ⟨q0, q1⟩ := hSw
    go_simp
    try with_reducible rfl
  try simp only [Act.put, List.setIfInBounds_toArray, List.set_cons_zero, List.set_cons_succ]
  refine wpAnyH_take (i := 9) (oi := ?oi_10) (v := ?_) ?hi_10 (by kernel_rfl) ?hf_10 (by kernel_rfl) ?hQ_10 ?hy_10 (by assumption) ?_
  case hi_10 => simp only [List.getElem?_toArray, List.getElem?_cons_zero, List.getElem?_cons_succ]; rfl
  case hf_10 => kernel_rfl
  case hQ_10 => exact fun _ _ _ h => h
  case hy_10 =>
    refine Or.inl ⟨by rfl, ?_⟩
    intro W hSw
    obtain ⟨q0, q1⟩ := hSw
    go_simp
    try with_reducible rfl
  try simp only [Act.put, List.setIfInBounds_toArray, List.set_cons_zero, List.set_cons_succ]
  refine wpAnyH_take (i := 10) (oi := ?oi_11) (v := ?_) ?hi_11 (by kernel_rfl) ?hf_11 (by kernel_rfl) ?hQ_11 ?hy_11 (by assumption) ?_
  case hi_11 => simp only [List.getElem?_toArray, List.getElem?_cons_zero, List.getElem?_cons_succ]; rfl
  case hf_11 => kernel_rfl
  case hQ_11 => exact fun _ _ _ h => h
  case hy_11 =>
    refine Or.inl ⟨by rfl, ?_⟩
    intro W hSw
    obtain ⟨q0, q1⟩ := hSw
    go_simp
    try with_reducible rfl
  try simp only [Act.put, List.setIfInBounds_toArray, List.set_cons_zero, List.set_cons_succ]
  refine wpAnyH_take (i := 12) (oi := ?oi_12) (v := ?_) ?hi_12 (by kernel_rfl) ?hf_12 (by kernel_rfl) ?hQ_12 ?hy_12 (by assumption) ?_
  case hi_12 => simp only [List.getElem?_toArray, List.getElem?_cons_zero, List.getElem?_cons_succ]; rfl
  case hf_12 => kernel_rfl
  case hQ_12 => exact fun _ _ _ h => h
  case hy_12 =>
    refine Or.inl ⟨by rfl, ?_⟩
    intro W hSw
    obtain ⟨q0, q1⟩ := hSw
    go_simp
    try with_reducible rfl
  try simp only [Act.put, List.setIfInBounds_toArray, List.set_cons_zero, List.set_cons_succ]
  refine wpAnyH_take (i := 13) (oi := ?oi_13) (v := ?_) ?hi_13 (by kernel_rfl) ?hf_13 (by kernel_rfl) ?hQ_13 ?hy_13 (by assumption) ?_
  case hi_13 => simp only [List.getElem?_toArray, List.getElem?_cons_zero, List.getElem?_cons_succ]; rfl
  case hf_13 => kernel_rfl
  case hQ_13 => exact fun _ _ _ h => h
  case hy_13 =>
    refine Or.inl ⟨by rfl, ?_⟩
    intro W hSw
    obtain ⟨q0, q1⟩ := hSw
    go_simp
    try with_reducible rfl
  try simp only [Act.put, List.setIfInBounds_toArray, List.set_cons_zero, List.set_cons_succ]
  refine wpAnyH_ready (rs := [11]) (by kernel_rfl) (by simp) ?_
  refine AllReadyH.cons (o := ?oi_14) ?hi_14 (fun K hK => ?_) AllReadyH.nil
  case hi_14 => simp only [List.getElem?_toArray, List.getElem?_cons_zero, List.getElem?_cons_succ]; rfl
  go_simp
  (go_at_call 43
   refine HP.out.mono ?_
   rintro e w1 ⟨rfl, rfl⟩)
  refine hK.out _ _ ⟨c0, c3⟩ (fun hHeld => ?_)
  clear hK K
  try simp only [Act.put, List.setIfInBounds_toArray, List.set_cons_zero, List.set_cons_succ]
  refine wpAnyH_ready (rs := [14]) (by kernel_rfl) (by simp) ?_
  refine AllReadyH.cons (o := ?oi_15) ?hi_15 (fun K hK => ?_) AllReadyH.nil
  case hi_15 => simp only [List.getElem?_toArray, List.getElem?_cons_zero, List.getElem?_cons_succ]; rfl
  go_simp
  (go_at_call 42
   refine HB.out.mono ?_
   rintro e w2 ⟨b, rfl, hb, hy, hbel⟩
   have HB2 := Lib.hid hb
   have HY := Lib.hid hy
   have HBel := Lib.hid hbel
   have HS2 := Lib.hid ((HS.out.drewN 1).below hbel)
   have g0 : w2.cell? ⟨s, 0, none⟩ = some (.pointer (some ⟨a, 0, none⟩)) := HS2.out.blk.cell 0
   have g3 : w2.cell? ⟨s, 3, none⟩ = some (.int .i64 h) := HS2.out.blk.cell 3
   clear hb hy hbel)
  refine hK.out _ _ ⟨g0, g3⟩ (fun hHeld => ?_)
  clear hK K
  try simp only [Act.put, List.setIfInBounds_toArray, List.set_cons_zero, List.set_cons_succ]
  refine wpAnyH_take (i := 15) (oi := ?oi_16) (v := ?_) ?hi_16 (by kernel_rfl) ?hf_16 (by kernel_rfl) ?hQ_16 ?hy_16 (by assumption) ?_
  case hi_16 => simp only [List.getElem?_toArray, List.getElem?_cons_zero, List.getElem?_cons_succ]; rfl
  case hf_16 => kernel_rfl
  case hQ_16 => exact fun _ _ _ h => h
  case hy_16 =>
    refine Or.inl ⟨by rfl, ?_⟩
    intro W hSw
    obtain ⟨q0, q1⟩ := hSw
    go_simp
    try with_reducible rfl
  try simp only [Act.put, List.setIfInBounds_toArray, List.set_cons_zero, List.set_cons_succ]
  refine wpAnyH_take (i := 16) (oi := ?oi_17) (v := ?_) ?hi_17 (by kernel_rfl) ?hf_17 (by kernel_rfl) ?hQ_17 ?hy_17 (by assumption) ?_
  case hi_17 => simp only [List.getElem?_toArray, List.getElem?_cons_zero, List.getElem?_cons_succ]; rfl
  case hf_17 => kernel_rfl
  case hQ_17 => exact fun _ _ _ h => h
  case hy_17 =>
    refine Or.inl ⟨by rfl, ?_⟩
    intro W hSw
    obtain ⟨q0, q1⟩ := hSw
    go_simp
    try with_reducible rfl
  try simp only [Act.put, List.setIfInBounds_toArray, List.set_cons_zero, List.set_cons_succ]
  refine wpAnyH_take (i := 17) (oi := ?oi_18) (v := ?_) ?hi_18 (by kernel_rfl) ?hf_18 (by kernel_rfl) ?hQ_18 ?hy_18 (by assumption) ?_
  case hi_18 => simp only [List.getElem?_toArray, List.getElem?_cons_zero, List.getElem?_cons_succ]; rfl
  case hf_18 => kernel_rfl
  case hQ_18 => exact fun _ _ _ h => h
  case hy_18 =>
    refine Or.inl ⟨by rfl, ?_⟩
    intro W hSw
    obtain ⟨q0, q1⟩ := hSw
    go_simp
    try with_reducible rfl
  try simp only [Act.put, List.setIfInBounds_toArray, List.set_cons_zero, List.set_cons_succ]
  refine wpAnyH_take (i := 18) (oi := ?oi_19) (v := ?_) ?hi_19 (by kernel_rfl) ?hf_19 (by kernel_rfl) ?hQ_19 ?hy_19 (by assumption) ?_
  case hi_19 => simp only [List.getElem?_toArray, List.getElem?_cons_zero, List.getElem?_cons_succ]; rfl
  case hf_19 => kernel_rfl
  case hQ_19 => exact fun _ _ _ h => h
  case hy_19 =>
    refine Or.inl ⟨by rfl, ?_⟩
    intro W hSw
    obtain ⟨q0, q1⟩ := hSw
    go_simp
    try with_reducible rfl
  try simp only [Act.put, List.setIfInBounds_toArray, List.set_cons_zero, List.set_cons_succ]
  refine wpAnyH_take (i := 19) (oi := ?oi_20) (v := ?_) ?hi_20 (by kernel_rfl) ?hf_20 (by kernel_rfl) ?hQ_20 ?hy_20 (by assumption) ?_
  case hi_20 => simp only [List.getElem?_toArray, List.getElem?_cons_zero, List.getElem?_cons_succ]; rfl
  case hf_20 => kernel_rfl
  case hQ_20 => exact fun _ _ _ h => h
  case hy_20 =>
    refine Or.inl ⟨by rfl, ?_⟩
    intro W hSw
    obtain ⟨q0, q1⟩ := hSw
    go_simp
    try with_reducible rfl
  try simp only [Act.put, List.setIfInBounds_toArray, List.set_cons_zero, List.set_cons_succ]
  refine wpAnyH_done (by kernel_rfl) ?_ _
  clear hHeld c0 c3
  simp only [Exit.inBlock, Exit.then]
  go_wp2
  have HP2 := Lib.hid (place_ok (HS2.out.drewN 1) c (by omega))
  have HC2 := Copy_all a bb rm gm d (at_ + 8 * c) (8 * n) (8 * n) (some ⟨b, 0, none⟩) _ w2.drew (HS2.out.are.drewN 1) (HY.out.drewN 1) (by omega)
  unfold CpPost at HC2
  have HC2 := Lib.hid HC2
  have g0 : w2.drew.cell? ⟨s, 0, none⟩ = some (.pointer (some ⟨a, 0, none⟩)) := g0
  refine wp_region_held_drew (S := (fun W => W.cell? ⟨s, 0, none⟩ = some (.pointer (some ⟨a, 0, none⟩)))) (by kernel_rfl) g0 (fun hHeld => ?_)
  refine wpAnyH_take (i := 0) (oi := ?oi_21) (v := ?_) ?hi_21 (by kernel_rfl) ?hf_21 (by kernel_rfl) ?hQ_21 ?hy_21 (by assumption) ?_
  case hi_21 => simp only [List.getElem?_toArray, List.getElem?_cons_zero, List.getElem?_cons_succ]; rfl
  case hf_21 => kernel_rfl
  case hQ_21 => exact fun _ _ _ h => h
  case hy_21 =>
    refine Or.inl ⟨by rfl, ?_⟩
    intro W hSw
    have q0 := hSw
    go_simp
    try with_reducible rfl
  try simp only [Act.put, List.setIfInBounds_toArray, List.set_cons_zero, List.set_cons_succ]
  refine wpAnyH_take (i := 1) (oi := ?oi_22) (v := ?_) ?hi_22 (by kernel_rfl) ?hf_22 (by kernel_rfl) ?hQ_22 ?hy_22 (by assumption) ?_
  case hi_22 => simp only [List.getElem?_toArray, List.getElem?_cons_zero, List.getElem?_cons_succ]; rfl
  case hf_22 => kernel_rfl
  case hQ_22 => exact fun _ _ _ h => h
  case hy_22 =>
    refine Or.inl ⟨by rfl, ?_⟩
    intro W hSw
    have q0 := hSw
    go_simp
    try with_reducible rfl
  try simp only [Act.put, List.setIfInBounds_toArray, List.set_cons_zero, List.set_cons_succ]
  refine wpAnyH_take (i := 2) (oi := ?oi_23) (v := ?_) ?hi_23 (by kernel_rfl) ?hf_23 (by kernel_rfl) ?hQ_23 ?hy_23 (by assumption) ?_
  case hi_23 => simp only [List.getElem?_toArray, List.getElem?_cons_zero, List.getElem?_cons_succ]; rfl
  case hf_23 => kernel_rfl
  case hQ_23 => exact fun _ _ _ h => h
  case hy_23 =>
    refine Or.inl ⟨by rfl, ?_⟩
    intro W hSw
    have q0 := hSw
    go_simp
    try with_reducible rfl
  try simp only [Act.put, List.setIfInBounds_toArray, List.set_cons_zero, List.set_cons_succ]
  refine wpAnyH_take (i := 3) (oi := ?oi_24) (v := ?_) ?hi_24 (by kernel_rfl) ?hf_24 (by kernel_rfl) ?hQ_24 ?hy_24 (by assumption) ?_
  case hi_24 => simp only [List.getElem?_toArray, List.getElem?_cons_zero, List.getElem?_cons_succ]; rfl
  case hf_24 => kernel_rfl
  case hQ_24 => exact fun _ _ _ h => h
  case hy_24 =>
    refine Or.inl ⟨by rfl, ?_⟩
    intro W hSw
    have q0 := hSw
    go_simp
    try with_reducible rfl
  try simp only [Act.put, List.setIfInBounds_toArray, List.set_cons_zero, List.set_cons_succ]
  refine wpAnyH_take (i := 4) (oi := ?oi_25) (v := ?_) ?hi_25 (by kernel_rfl) ?hf_25 (by kernel_rfl) ?hQ_25 ?hy_25 (by assumption) ?_
  case hi_25 => simp only [List.getElem?_toArray, List.getElem?_cons_zero, List.getElem?_cons_succ]; rfl
  case hf_25 => kernel_rfl
  case hQ_25 => exact fun _ _ _ h => h
  case hy_25 =>
    refine Or.inl ⟨by rfl, ?_⟩
    intro W hSw
    have q0 := hSw
    go_simp
    try with_reducible rfl
  try simp only [Act.put, List.setIfInBounds_toArray, List.set_cons_zero, List.set_cons_succ]
  refine wpAnyH_take (i := 5) (oi := ?oi_26) (v := ?_) ?hi_26 (by kernel_rfl) ?hf_26 (by kernel_rfl) ?hQ_26 ?hy_26 (by assumption) ?_
  case hi_26 => simp only [List.getElem?_toArray, List.getElem?_cons_zero, List.getElem?_cons_succ]; rfl
  case hf_26 => kernel_rfl
  case hQ_26 => exact fun _ _ _ h => h
  case hy_26 =>
    refine Or.inl ⟨by rfl, ?_⟩
    intro W hSw
    have q0 := hSw
    go_simp
    try with_reducible rfl
  try simp only [Act.put, List.setIfInBounds_toArray, List.set_cons_zero, List.set_cons_succ]
  refine wpAnyH_take (i := 7) (oi := ?oi_27) (v := ?_) ?hi_27 (by kernel_rfl) ?hf_27 (by kernel_rfl) ?hQ_27 ?hy_27 (by assumption) ?_
  case hi_27 => simp only [List.getElem?_toArray, List.getElem?_cons_zero, List.getElem?_cons_succ]; rfl
  case hf_27 => kernel_rfl
  case hQ_27 => exact fun _ _ _ h => h
  case hy_27 =>
    refine Or.inl ⟨by rfl, ?_⟩
    intro W hSw
    have q0 := hSw
    go_simp
    try with_reducible rfl
  try simp only [Act.put, List.setIfInBounds_toArray, List.set_cons_zero, List.set_cons_succ]
  refine wpAnyH_ready (rs := [6]) (by kernel_rfl) (by simp) ?_
  refine AllReadyH.cons (o := ?oi_28) ?hi_28 (fun K hK => ?_) AllReadyH.nil
  case hi_28 => simp only [List.getElem?_toArray, List.getElem?_cons_zero, List.getElem?_cons_succ]; rfl
  go_simp
  (go_at_call 43
   refine HP2.out.mono ?_
   rintro e w1 ⟨rfl, rfl⟩)
  refine hK.out _ _ g0 (fun hHeld => ?_)
  clear hK K
  try simp only [Act.put, List.setIfInBounds_toArray, List.set_cons_zero, List.set_cons_succ]
  refine wpAnyH_ready (rs := [8]) (by kernel_rfl) (by simp) ?_
  refine AllReadyH.cons (o := ?oi_29) ?hi_29 (fun K hK => ?_) AllReadyH.nil
  case hi_29 => simp only [List.getElem?_toArray, List.getElem?_cons_zero, List.getElem?_cons_succ]; rfl
  go_simp
  (go_at_call 44
   refine HC2.out.mono ?_
   rintro e w3 ⟨rfl, hA, hF⟩
   have HA3 := Lib.hid hA
   have HF3 := Lib.hid hF
   have hb3 := (HS2.out.drewN 1).blk.fr hF HS2.out.sb
   have z3 := hb3.frozen 3
   have q3 : w3.cell? ⟨s, 3, none⟩ = some (.int .i64 h) := hb3.cell 3
   have k0 : w3.cell? ⟨s, 0, none⟩ = some (.pointer (some ⟨a, 0, none⟩)) := hb3.cell 0
   clear hA hF hb3)
  refine hK.out _ _ k0 (fun hHeld => ?_)
  clear hK K
  try simp only [Act.put, List.setIfInBounds_toArray, List.set_cons_zero, List.set_cons_succ]
  refine wpAnyH_done (by kernel_rfl) ?_ _
  clear hHeld
  simp only [Exit.inBlock, Exit.then]
  go_wp2
  go_ret
  have HS3 : SkI w3 a bb rm gm (d.cpy (at_ + 8 * c) ((d.mem.drop (at_ + 8 * (h - n))).take (8 * n))) s at_ cells h := ⟨HA3.out, (HS2.out.drewN 1).blk.fr HF3.out HS2.out.sb, HS2.out.hh, HS2.out.hc, HS2.out.room⟩
  exact ⟨rfl, HS3.high (by omega) _ (by rw [Int.natCast_add]) rfl, ((((Fr.of_below HBel.out).undrewN (k := 1)).trans (HF3.out.undrewN (k := 1))).more (fun k q => .inl q)).set_ (p := ⟨s, 3, none⟩) (.inr rfl) _⟩
theorem SkI.close_kept {w2 : World} {c k : Nat} (H : SkI w a bb rm gm d s at_ cells h) (hG : ∀ i, d.G i = []) (hf : Fr (gvS a rm gm d c) (w.drewN k) w2) : Blk w2 s 79 (skC a at_ cells h) := by
  refine (H.blk.drewN k).fr hf ?_
  rintro (q | q | q | q)
  · exact H.sa q
  · obtain ⟨n, _, hi⟩ := H.are.rooms
    exact hi.ne_ H.blk q.symm
  · obtain ⟨n, _, hi⟩ := H.are.given
    exact hi.ne_ H.blk q.symm
  · have := (H.are.own0 c).2.2 (hG c)
    rw [this] at q
    cases q
theorem Are.close_set {w2 : World} {at_ c : Nat} {v : Value} {cs : Array Value} {u0 u1 u2 u3 : Value} (H : Are w2 a bb rm gm (d.give at_ c v)) (hB : Blk w2 s 79 cs) :
    Are ((((w2.setCell ⟨s, 0, none⟩ u0).setCell ⟨s, 1, none⟩ u1).setCell ⟨s, 2, none⟩ u2).setCell ⟨s, 3, none⟩ u3) a bb rm gm (d.give at_ c v) := by
  have hf : Fr (· = s) w2 ((((w2.setCell ⟨s, 0, none⟩ u0).setCell ⟨s, 1, none⟩ u1).setCell ⟨s, 2, none⟩ u2).setCell ⟨s, 3, none⟩ u3) :=
    ((((Fr.refl (· = s) w2).set_ (p := ⟨s, 0, none⟩) rfl u0).set_ (p := ⟨s, 1, none⟩) rfl u1).set_ (p := ⟨s, 2, none⟩) rfl u2).set_ (p := ⟨s, 3, none⟩) rfl u3
  refine H.fr hf ?_
  rintro k hk rfl
  rcases hk with q | q | q | q | ⟨i, hc, q⟩
  · rw [q] at hB; exact hB.ne_ H.blk (by decide) rfl
  · rw [q] at hB; exact hB.ne_ H.byt (by decide) rfl
  · obtain ⟨n, _, hi⟩ := H.rooms
    rw [q] at hB
    exact hi.ne_ hB rfl
  · obtain ⟨n, _, hi⟩ := H.given
    rw [q] at hB
    exact hi.ne_ hB rfl
  · obtain ⟨g', cap, cur, e, hg', _⟩ := H.row hc
    rw [e] at q
    simp only [Value.ownBlock, Option.some.injEq] at q
    rw [← q] at hB
    exact hg'.ne_ hB (by decide) rfl
def ClPost (a bb rm gm : Nat) (d : Ad) (s at_ c : Nat) (w : World) (e : Ending) (w' : World) : Prop :=
  e = .returned (.int .i64 0) ∧ (∃ v, Are w' a bb rm gm (d.give at_ c v)) ∧ Blk w' s 79 skZ
set_option maxHeartbeats 2000000 in
set_option maxRecDepth 100000 in
theorem Close_ok (H : SkI w a bb rm gm d s at_ cells h) (c : Nat) (hR : d.R at_ = some c) (hG : ∀ i, d.G i = []) (ho : d.ops < 1000000) : Calls Try.prog 25 #[.pointer (some ⟨s, 0, none⟩)] w (ClPost a bb rm gm d s at_ c w) := by
  have HC := Lib.hid (closed_no H.blk)
  have c0 : w.drew.cell? ⟨s, 0, none⟩ = some (.pointer (some ⟨a, 0, none⟩)) := H.blk.cell 0
  have c1 : w.drew.cell? ⟨s, 1, none⟩ = some (.int .i64 at_) := H.blk.cell 1
  have HGi := Give_ok a bb rm gm d at_ c w.drew (H.are.drewN 1) hR ho
  unfold GvPost at HGi
  have HGi := Lib.hid HGi
  have HS := Lib.hid H
  have HE := Lib.hid hG
  clear H hR hG
  go_enter Try.func25, Try.ntmps25
  go_wp2_with (go_at_call 38; refine HC.out.mono ?_; rintro e w' ⟨rfl, rfl⟩)
  refine wp_region_held_drew (S := (fun W => W.cell? ⟨s, 0, none⟩ = some (.pointer (some ⟨a, 0, none⟩)) ∧ W.cell? ⟨s, 1, none⟩ = some (.int .i64 at_))) (by kernel_rfl) ⟨c0, c1⟩ (fun hHeld => ?_)
  refine wpAnyH_take (i := 0) (oi := ?oi_30) (v := ?_) ?hi_30 (by kernel_rfl) ?hf_30 (by kernel_rfl) ?hQ_30 ?hy_30 (by assumption) ?_
  case hi_30 => simp only [List.getElem?_toArray, List.getElem?_cons_zero, List.getElem?_cons_succ]; rfl
  case hf_30 => kernel_rfl
  case hQ_30 => exact fun _ _ _ h => h
  case hy_30 =>
    refine Or.inl ⟨by rfl, ?_⟩
    intro W hSw
    obtain ⟨q0, q1⟩ := hSw
    go_simp
    try with_reducible rfl
  try simp only [Act.put, List.setIfInBounds_toArray, List.set_cons_zero, List.set_cons_succ]
  refine wpAnyH_take (i := 1) (oi := ?oi_31) (v := ?_) ?hi_31 (by kernel_rfl) ?hf_31 (by kernel_rfl) ?hQ_31 ?hy_31 (by assumption) ?_
  case hi_31 => simp only [List.getElem?_toArray, List.getElem?_cons_zero, List.getElem?_cons_succ]; rfl
  case hf_31 => kernel_rfl
  case hQ_31 => exact fun _ _ _ h => h
  case hy_31 =>
    refine Or.inl ⟨by rfl, ?_⟩
    intro W hSw
    obtain ⟨q0, q1⟩ := hSw
    go_simp
    try with_reducible rfl
  try simp only [Act.put, List.setIfInBounds_toArray, List.set_cons_zero, List.set_cons_succ]
  refine wpAnyH_take (i := 2) (oi := ?oi_32) (v := ?_) ?hi_32 (by kernel_rfl) ?hf_32 (by kernel_rfl) ?hQ_32 ?hy_32 (by assumption) ?_
  case hi_32 => simp only [List.getElem?_toArray, List.getElem?_cons_zero, List.getElem?_cons_succ]; rfl
  case hf_32 => kernel_rfl
  case hQ_32 => exact fun _ _ _ h => h
  case hy_32 =>
    refine Or.inl ⟨by rfl, ?_⟩
    intro W hSw
    obtain ⟨q0, q1⟩ := hSw
    go_simp
    try with_reducible rfl
  try simp only [Act.put, List.setIfInBounds_toArray, List.set_cons_zero, List.set_cons_succ]
  refine wpAnyH_take (i := 3) (oi := ?oi_33) (v := ?_) ?hi_33 (by kernel_rfl) ?hf_33 (by kernel_rfl) ?hQ_33 ?hy_33 (by assumption) ?_
  case hi_33 => simp only [List.getElem?_toArray, List.getElem?_cons_zero, List.getElem?_cons_succ]; rfl
  case hf_33 => kernel_rfl
  case hQ_33 => exact fun _ _ _ h => h
  case hy_33 =>
    refine Or.inl ⟨by rfl, ?_⟩
    intro W hSw
    obtain ⟨q0, q1⟩ := hSw
    go_simp
    try with_reducible rfl
  try simp only [Act.put, List.setIfInBounds_toArray, List.set_cons_zero, List.set_cons_succ]
  refine wpAnyH_take (i := 4) (oi := ?oi_34) (v := ?_) ?hi_34 (by kernel_rfl) ?hf_34 (by kernel_rfl) ?hQ_34 ?hy_34 (by assumption) ?_
  case hi_34 => simp only [List.getElem?_toArray, List.getElem?_cons_zero, List.getElem?_cons_succ]; rfl
  case hf_34 => kernel_rfl
  case hQ_34 => exact fun _ _ _ h => h
  case hy_34 =>
    refine Or.inl ⟨by rfl, ?_⟩
    intro W hSw
    obtain ⟨q0, q1⟩ := hSw
    go_simp
    try with_reducible rfl
  try simp only [Act.put, List.setIfInBounds_toArray, List.set_cons_zero, List.set_cons_succ]
  refine wpAnyH_take (i := 5) (oi := ?oi_35) (v := ?_) ?hi_35 (by kernel_rfl) ?hf_35 (by kernel_rfl) ?hQ_35 ?hy_35 (by assumption) ?_
  case hi_35 => simp only [List.getElem?_toArray, List.getElem?_cons_zero, List.getElem?_cons_succ]; rfl
  case hf_35 => kernel_rfl
  case hQ_35 => exact fun _ _ _ h => h
  case hy_35 =>
    refine Or.inl ⟨by rfl, ?_⟩
    intro W hSw
    obtain ⟨q0, q1⟩ := hSw
    go_simp
    try with_reducible rfl
  try simp only [Act.put, List.setIfInBounds_toArray, List.set_cons_zero, List.set_cons_succ]
  refine wpAnyH_take (i := 6) (oi := ?oi_36) (v := ?_) ?hi_36 (by kernel_rfl) ?hf_36 (by kernel_rfl) ?hQ_36 ?hy_36 (by assumption) ?_
  case hi_36 => simp only [List.getElem?_toArray, List.getElem?_cons_zero, List.getElem?_cons_succ]; rfl
  case hf_36 => kernel_rfl
  case hQ_36 => exact fun _ _ _ h => h
  case hy_36 =>
    refine Or.inl ⟨by rfl, ?_⟩
    intro W hSw
    obtain ⟨q0, q1⟩ := hSw
    go_simp
    try with_reducible rfl
  try simp only [Act.put, List.setIfInBounds_toArray, List.set_cons_zero, List.set_cons_succ]
  refine wpAnyH_take (i := 7) (oi := ?oi_37) (v := ?_) ?hi_37 (by kernel_rfl) ?hf_37 (by kernel_rfl) ?hQ_37 ?hy_37 (by assumption) ?_
  case hi_37 => simp only [List.getElem?_toArray, List.getElem?_cons_zero, List.getElem?_cons_succ]; rfl
  case hf_37 => kernel_rfl
  case hQ_37 => exact fun _ _ _ h => h
  case hy_37 =>
    refine Or.inl ⟨by rfl, ?_⟩
    intro W hSw
    obtain ⟨q0, q1⟩ := hSw
    go_simp
    try with_reducible rfl
  try simp only [Act.put, List.setIfInBounds_toArray, List.set_cons_zero, List.set_cons_succ]
  refine wpAnyH_ready (rs := [8]) (by kernel_rfl) (by simp) ?_
  refine AllReadyH.cons (o := ?oi_38) ?hi_38 (fun K hK => ?_) AllReadyH.nil
  case hi_38 => simp only [List.getElem?_toArray, List.getElem?_cons_zero, List.getElem?_cons_succ]; rfl
  go_simp
  (go_at_call 45
   refine HGi.out.mono ?_
   rintro e w2 ⟨v, rfl, hA, hF, hv⟩
   have HA2 := Lib.hid hA
   have hb2 := HS.out.close_kept HE.out hF
   have HB2 := Lib.hid hb2
   have g0 : w2.cell? ⟨s, 0, none⟩ = some (.pointer (some ⟨a, 0, none⟩)) := hb2.cell 0
   have g1 : w2.cell? ⟨s, 1, none⟩ = some (.int .i64 at_) := hb2.cell 1
   have g2 : w2.cell? ⟨s, 2, none⟩ = some (.int .i64 cells) := hb2.cell 2
   have g3 : w2.cell? ⟨s, 3, none⟩ = some (.int .i64 h) := hb2.cell 3
   have z0 := hb2.frozen 0
   have z1 := hb2.frozen 1
   have z2 := hb2.frozen 2
   have z3 := hb2.frozen 3
   clear hA hF hv hb2)
  refine hK.out _ _ ⟨g0, g1⟩ (fun hHeld => ?_)
  clear hK K
  try simp only [Act.put, List.setIfInBounds_toArray, List.set_cons_zero, List.set_cons_succ]
  refine wpAnyH_done (by kernel_rfl) ?_ _
  clear hHeld
  simp only [Exit.inBlock, Exit.then]
  go_wp2
  go_ret
  refine ⟨rfl, ⟨v, HA2.out.close_set HB2.out⟩, ?_⟩
  exact (((HB2.out.set_ 0 _).set_ 1 _).set_ 2 _).set_ 3 _
set_option maxRecDepth 100000 in
theorem Close_shut (H : Blk w s 79 skZ) : Calls Try.prog 25 #[.pointer (some ⟨s, 0, none⟩)] w fun e w' => e = .returned (.int .i64 12) ∧ w = w' := by
  have HC := Lib.hid (closed_yes H)
  clear H
  go_enter Try.func25, Try.ntmps25
  go_wp2_with (go_at_call 38; refine HC.out.mono ?_; rintro e w' ⟨rfl, rfl⟩)
  go_ret
  exact ⟨rfl, rfl⟩
set_option maxRecDepth 100000 in
theorem Close_nil (w : World) : Calls Try.prog 25 #[.pointer none] w fun e w' => e = .returned (.int .i64 12) ∧ w = w' := by
  have HC := Lib.hid (closed_nil w)
  go_enter Try.func25, Try.ntmps25
  go_wp2_with (go_at_call 38; refine HC.out.mono ?_; rintro e w' ⟨rfl, rfl⟩)
  go_ret
  exact ⟨rfl, rfl⟩
def NkPost (a bb rm gm : Nat) (d : Ad) (cells : Nat) (w : World) (e : Ending) (w' : World) : Prop :=
  ∃ s, e = .returned (.tuple #[.pointer (some ⟨s, 0, none⟩), .int .i64 0]) ∧ w.heap.size ≤ s ∧ SkI w' a bb rm gm ((d.cut (cl (8 * cells))).take d.height (cl (8 * cells))) s d.height cells 0 ∧ Fr (arb a bb rm gm) w w'
set_option maxHeartbeats 1000000 in
set_option maxRecDepth 100000 in
theorem SkNew_ok (H : Are w a bb rm gm d) (n : Nat) (h1 : 1 ≤ n) (h2 : n ≤ 65536) (hG : d.G (cl (8 * n)) = []) (hh : d.height + cl (8 * n) ≤ d.sz) (ho : d.ops < 1000000) :
    Calls Try.prog 14 #[.pointer (some ⟨a, 0, none⟩), .int .i64 n] w (NkPost a bb rm gm d n w) := by
  have HT := Take_cut a bb rm gm d (8 * n) w H (by omega) (by omega) hG hh ho
  unfold TcPost at HT
  have HT := Lib.hid HT
  have hge : 8 * (n : Int) ≤ cl (8 * n) := cl_ge (by omega)
  clear H hG
  go_enter Try.func14, Try.ntmps14
  go_wp2_with (go_at_call 37; refine HT.out.mono ?_; rintro e w2 ⟨rfl, hA, hF⟩; have HA2 := Lib.hid hA; have HF2 := Lib.hid hF; clear hA hF)
  go_ret2
  refine ⟨w2.heap.size, rfl, HF2.out.size, ⟨HA2.out.alloc _, Blk.new w2 79 _, Nat.zero_le _, h2, ?_⟩, HF2.out.alloc _⟩
  show d.height + 8 * n ≤ d.sz
  omega
set_option maxRecDepth 100000 in
theorem SkNew_full (H : Are w a bb rm gm d) (n : Nat) (h1 : 1 ≤ n) (h2 : n ≤ 65536) (hG : d.G (cl (8 * n)) = []) (hh : d.sz < d.height + cl (8 * n)) :
    Calls Try.prog 14 #[.pointer (some ⟨a, 0, none⟩), .int .i64 n] w fun e w' => e = .returned (.tuple #[.pointer none, .int .i64 8]) ∧ ∃ k, w.drewN k = w' := by
  have HT := Lib.hid (Take_full a bb rm gm d (8 * n) w H (by omega) (by omega) hG hh)
  clear H hG
  go_enter Try.func14, Try.ntmps14
  go_wp2_with (go_at_call 37; refine HT.out.mono ?_; rintro e w2 ⟨rfl, kq, rfl⟩)
  go_ret2
  exact ⟨rfl, _, rfl⟩
set_option maxRecDepth 100000 in
theorem SkNew_arg (w : World) (a : Nat) (n : Int) (h : n < 1 ∨ (1 ≤ n ∧ 65536 < n)) :
    Calls Try.prog 14 #[.pointer (some ⟨a, 0, none⟩), .int .i64 n] w fun e w' => e = .returned (.tuple #[.pointer none, .int .i64 1]) ∧ w = w' := by
  rcases h with h | ⟨h, h'⟩
  all_goals
    go_enter Try.func14, Try.ntmps14
    go_wp2
    go_ret2
    exact ⟨rfl, rfl⟩
set_option maxRecDepth 100000 in
theorem SkNew_nil (w : World) (n : Int) : Calls Try.prog 14 #[.pointer none, .int .i64 n] w fun e w' => e = .returned (.tuple #[.pointer none, .int .i64 12]) ∧ w = w' := by
  go_enter Try.func14, Try.ntmps14
  go_wp2
  go_ret2
  exact ⟨rfl, rfl⟩
end
end Go.Proofs.Ythfdblpodnodcaa
