/-
  LebPuts with nothing ahead (nil).
-/
import Derived.Test.YtchdcimmbmphnaaLn
import Derived.Test.YtchdcimmbmphnaaLo
import Derived.Deep.RegionWith
import Derived.Deep.RegionHeld3
import Derived.WalkSmall
import Derived.Test.YtchdcimmbmphnaaLq
import Derived.Laws.AppendOwnNone
namespace Go.Proofs.Ytchdcimmbmphnaa
open Go.RowKit
set_option linter.unusedVariables false
theorem put_zero (A : Option Addr) (cp n : Nat) (w : World) (q : Byt w A 0 cp []) (h : n < 2 ^ 64) : Calls Try.prog 18 #[.slice A 0 cp, .int .u64 n] w (PutPost w.heap.size (Leb.szU n + 1) (Leb.enc (Leb.szU n) n) w) := by
  have := Put_any A 0 cp [] n w q (by omega) h
  rw [Nat.zero_add, List.nil_append] at this
  exact this
theorem putS_zero (A : Option Addr) (cp : Nat) (n : Int) (w : World) (q : Byt w A 0 cp []) (h : -9223372036854775808 ≤ n) (h2 : n < 9223372036854775808) : Calls Try.prog 19 #[.slice A 0 cp, .int .i64 n] w (PutPost w.heap.size (Leb.szS n + 1) (Leb.enc (Leb.szS n) n) w) := by
  have := PutS_any A 0 cp [] n w q (by omega) h h2
  rw [Nat.zero_add, List.nil_append] at this
  exact this
theorem byt_lit (w : World) {g : Nat} : Byt w (some ⟨g, 0, none⟩) 0 0 [] := ⟨rfl, by simp, Nat.le_refl _, Nat.zero_le _, fun h => by omega⟩
set_option maxHeartbeats 4000000 in
set_option maxRecDepth 100000 in
theorem puts_none (n0 : Nat) (m0 : Int) (w : World) (hn0 : n0 < 2 ^ 64) (hm1 : -9223372036854775808 ≤ m0) (hm2 : m0 < 9223372036854775808) :
    Calls Try.prog 5 #[.slice none 0 0, .int .u64 n0, .int .i64 m0] w fun e w' => e = .returned (.bool true) ∧ Below w.heap.size w w' := by
  obtain ⟨i0, hi, hz0, hz1, hz2⟩ := info_parts info5
  have hU := Leb.uns_enc n0 64 hn0 (by omega) (by omega)
  have hS := Leb.sgn_enc m0 64 hm1 hm2 (by omega) (by omega)
  rw [if_pos (by exact hn0)] at hU
  rw [if_pos (by unfold Leb.fit; exact ⟨hm1, hm2⟩)] at hS
  have HP := Lib.hid (fun A cp (W : World) (q : Byt W A 0 cp []) => put_zero A cp n0 W q hn0)
  have HQ := Lib.hid (fun A cp (W : World) (q : Byt W A 0 cp []) => putS_zero A cp m0 W q hm1 hm2)
  have HR := Lib.hid (fun W => refPut_any n0 W hn0)
  have HT := Lib.hid (fun W => refPutS_any m0 W hm1 hm2)
  have HZ := Lib.hid (fun W => size_any n0 W hn0)
  have HY := Lib.hid (fun W => sizeS_any m0 W hm1 hm2)
  have hk1 := Leb.szU_le 9 n0 (by omega)
  have hk2 := Leb.szS_le 9 m0 (by omega) (by omega)
  have HL1 := Lib.hid (Leb.enc_len (Leb.szU n0) n0)
  have HL2 := Lib.hid (Leb.enc_len (Leb.szS m0) m0)
  generalize Leb.enc (Leb.szU n0) n0 = E1 at *
  generalize Leb.enc (Leb.szS m0) m0 = E2 at *
  generalize Leb.szU n0 = k1 at *
  generalize Leb.szS m0 = k2 at *
  have HU := Lib.hid hU
  have HS := Lib.hid hS
  clear hU hS hn0 hm1 hm2
  go_enter Try.func5, Try.ntmps5
  go_wp2_with (first
    | (at_builtin
       refine wpList_append_own_none rfl (.tmp 19) (.tmp 20) 22 rfl w.heap.size 5 i0 1 Try.underlying22 hi (.slice (some ⟨w.heap.size, 0, none⟩) 0 0) 0 [] rfl (World.ownsRow_lit w #[] 0 (Nat.le_refl _) (Nat.zero_le _) rfl) rfl ?_
       have HB1 : Hid (Below w.heap.size w (w.alloc (.cells #[] 5))) := Lib.hid ((Below.refl w.heap.size w).alloc (Nat.le_refl _) _))
    | (go_at_call 18; refine (HP.out _ _ _ (byt_lit _)).mono ?_; rintro e w2 ⟨g2, cp2, rfl, hy2, hb2⟩; have HY2 := Lib.hid hy2; have HB2 := Lib.hid (HB1.out.trans (hb2.mono HB1.out.size)); clear hy2 hb2)
    | (at_builtin
       refine wpList_append_own_none rfl (.tmp 24) (.tmp 25) 22 rfl w2.heap.size 5 i0 1 Try.underlying22 hi (.slice (some ⟨w2.heap.size, 0, none⟩) 0 0) 0 [] rfl (World.ownsRow_lit w2 #[] 0 (Nat.le_refl _) (Nat.zero_le _) rfl) rfl ?_
       have hb3 : Below w2.heap.size w2 (w2.alloc (.cells #[] 5)) := (Below.refl w2.heap.size w2).alloc (Nat.le_refl _) _
       have HY2' := Lib.hid (HY2.out.kept hb3)
       have HB3 := Lib.hid (HB2.out.trans (hb3.mono HB2.out.size))
       clear hb3)
    | (go_at_call 19; refine (HQ.out _ _ _ (byt_lit _)).mono ?_; rintro e w4 ⟨g4, cp4, rfl, hy4, hb4⟩; have HY4 := Lib.hid hy4; have HY2'' := Lib.hid (HY2'.out.kept hb4); have HB4 := Lib.hid (HB3.out.trans (hb4.mono HB3.out.size)); have hcp2 : k1 + 1 ≤ cp2 := HY2.out.2.2.1; have hcp4 : k2 + 1 ≤ cp4 := hy4.2.2.1; clear hy4 hb4)
    | (go_at_call 14; refine (unsigned_any _ _ _ E1 64 _ HY2''.out).mono ?_; rw [HU.out]; rintro e w5 ⟨rfl, rfl⟩)
    | (go_at_call 16; refine (signed_any _ _ _ E2 64 _ HY4.out).mono ?_; rw [HS.out]; rintro e w6 ⟨rfl, rfl⟩))
  have hcat1 := str_app [] E1
  have hcat2 := str_app [] E2
  have hz1' : (str []).size + (str E1).size ≤ 100 := by rw [str_size, str_size, HL1.out, List.length_nil]; omega
  have hz2' : (str []).size + (str E2).size ≤ 100 := by rw [str_size, str_size, HL2.out, List.length_nil]; omega
  have HYl : Hid (Byt w4 none 0 0 []) := Lib.hid (byt_nil w4)
  have fa := conv_byt (show Byt w4.drew _ _ _ ([] ++ E1) from HY2''.out)
  have fb := conv_byt (show Byt w4.drew _ _ _ ([] ++ E2) from HY4.out)
  have fl := conv_byt (show Byt w4.drew _ _ _ _ from HYl.out)
  obtain ⟨SA, hSA⟩ : ∃ S, S = str ([] ++ E1) := ⟨_, rfl⟩
  obtain ⟨SB, hSB⟩ : ∃ S, S = str ([] ++ E2) := ⟨_, rfl⟩
  obtain ⟨SL, hSL⟩ : ∃ S, S = str [] := ⟨_, rfl⟩
  obtain ⟨S1, hS1⟩ : ∃ S, S = str E1 := ⟨_, rfl⟩
  obtain ⟨S2, hS2⟩ : ∃ S, S = str E2 := ⟨_, rfl⟩
  rw [← hSA] at fa hcat1
  rw [← hSB] at fb hcat2
  rw [← hSL] at fl hcat1 hcat2 hz1' hz2'
  rw [← hS1] at hcat1 hz1'
  rw [← hS2] at hcat2 hz2'
  have HSA := Lib.hid hSA
  have HSB := Lib.hid hSB
  have HSL := Lib.hid hSL
  have HS1 := Lib.hid hS1
  have HS2 := Lib.hid hS2
  clear hSA hSB hSL hS1 hS2
  refine wp_region_held_drew (S := (fun w' => (convert 22 9 (.slice (some ⟨g2, 0, none⟩) (k1 + 1) cp2)).run Try.prog w' = .ok (.string SA) w' ∧ (convert 22 9 (.slice (some ⟨g4, 0, none⟩) (k2 + 1) cp4)).run Try.prog w' = .ok (.string SB) w' ∧ (convert 22 9 (.slice none 0 0)).run Try.prog w' = .ok (.string SL) w')) (by kernel_rfl) ⟨fa, fb, fl⟩ (fun hHeld => ?_)
  refine wpAnyH_take (i := 0) (oi := _) (v := ?_) rfl (by kernel_rfl) (by kernel_rfl) (by kernel_rfl) (fun _ _ _ h => h) (Or.inl ⟨by rfl, ?_⟩) (by assumption) ?_
  rotate_left
  · intro W hSw
    obtain ⟨q1, q2, q3⟩ := hSw
    go_simp
    try with_reducible rfl
  try simp only [Act.put, List.setIfInBounds_toArray]
  refine wpAnyH_take (i := 1) (oi := _) (v := ?_) rfl (by kernel_rfl) (by kernel_rfl) (by kernel_rfl) (fun _ _ _ h => h) (Or.inl ⟨by rfl, ?_⟩) (by assumption) ?_
  rotate_left
  · intro W hSw
    obtain ⟨q1, q2, q3⟩ := hSw
    go_simp
    try with_reducible rfl
  try simp only [Act.put]
  refine wpAnyH_take (i := 2) (oi := _) (v := ?_) rfl (by kernel_rfl) (by kernel_rfl) (by kernel_rfl) (fun _ _ _ h => h) (Or.inl ⟨by rfl, ?_⟩) (by assumption) ?_
  rotate_left
  · intro W hSw
    obtain ⟨q1, q2, q3⟩ := hSw
    go_simp
    try with_reducible rfl
  try simp only [Act.put]
  refine wpAnyH_take (i := 3) (oi := _) (v := ?_) rfl (by kernel_rfl) (by kernel_rfl) (by kernel_rfl) (fun _ _ _ h => h) (Or.inl ⟨by rfl, ?_⟩) (by assumption) ?_
  rotate_left
  · intro W hSw
    obtain ⟨q1, q2, q3⟩ := hSw
    go_simp
    try with_reducible rfl
  try simp only [Act.put]
  refine wpAnyH_take (i := 4) (oi := _) (v := ?_) rfl (by kernel_rfl) (by kernel_rfl) (by kernel_rfl) (fun _ _ _ h => h) (Or.inl ⟨by rfl, ?_⟩) (by assumption) ?_
  rotate_left
  · intro W hSw
    obtain ⟨q1, q2, q3⟩ := hSw
    go_simp
    try with_reducible rfl
  try simp only [Act.put]
  refine wpAnyH_ready (rs := [5]) (by kernel_rfl) (by simp) ?_
  refine AllReadyH.cons rfl (fun K hK => ?_) AllReadyH.nil
  go_simp
  (go_at_call 20
   refine (HR.out _).mono ?_
   rintro e w7 ⟨g7, cp7, rfl, hy7, hb7⟩
   have HB7 : Hid (Below w4.heap.size w4 w7) := Lib.hid ⟨hb7.os, hb7.tape, hb7.output, hb7.size, hb7.block⟩
   have fa7 := conv_byt (show Byt w7 _ _ _ ([] ++ E1) from HY2''.out.kept HB7.out)
   have fb7 := conv_byt (show Byt w7 _ _ _ ([] ++ E2) from HY4.out.kept HB7.out)
   have fl7 := conv_byt (HYl.out.kept HB7.out)
   have f17 := conv_byt hy7
   rw [← HSA.out] at fa7
   rw [← HSB.out] at fb7
   rw [← HSL.out] at fl7
   rw [← HS1.out] at f17
   have HY7 := Lib.hid hy7
   clear hy7 hb7)
  refine hK.out _ _ ⟨fa7, fb7, fl7⟩ (fun hHeld => ?_)
  clear hK K
  try simp only [Act.put, List.setIfInBounds_toArray, List.set_cons_zero, List.set_cons_succ]
  refine wpAnyH_ready (rs := [6]) (by kernel_rfl) (by simp) ?_
  refine AllReadyH.cons rfl (fun K hK => ?_) AllReadyH.nil
  go_simp
  refine hK.out _ _ ⟨fa7, fb7, fl7⟩ (fun hHeld => ?_)
  clear hK K
  try simp only [Act.put, List.setIfInBounds_toArray, List.set_cons_zero, List.set_cons_succ]
  refine wpAnyH_ready (rs := [7]) (by kernel_rfl) (by simp) ?_
  refine AllReadyH.cons rfl (fun K hK => ?_) AllReadyH.nil
  go_simp
  go_wp2_with fail
  refine hK.out _ _ ⟨fa7, fb7, fl7⟩ (fun hHeld => ?_)
  clear hK K
  try simp only [Act.put, List.setIfInBounds_toArray, List.set_cons_zero, List.set_cons_succ]
  refine wpAnyH_take (i := 8) (oi := _) (v := ?_) rfl (by kernel_rfl) (by kernel_rfl) (by kernel_rfl) (fun _ _ _ h => h) (Or.inl ⟨by rfl, ?_⟩) (by assumption) ?_
  rotate_left
  · intro W hSw
    obtain ⟨q1, q2, q3⟩ := hSw
    go_simp
    try with_reducible rfl
  try simp only [Act.put, List.setIfInBounds_toArray]
  refine wpAnyH_take (i := 9) (oi := _) (v := ?_) rfl (by kernel_rfl) (by kernel_rfl) (by kernel_rfl) (fun _ _ _ h => h) (Or.inl ⟨by rfl, ?_⟩) (by assumption) ?_
  rotate_left
  · intro W hSw
    obtain ⟨q1, q2, q3⟩ := hSw
    go_simp
    try with_reducible rfl
  try simp only [Act.put]
  refine wpAnyH_take (i := 10) (oi := _) (v := ?_) rfl (by kernel_rfl) (by kernel_rfl) (by kernel_rfl) (fun _ _ _ h => h) (Or.inl ⟨by rfl, ?_⟩) (by assumption) ?_
  rotate_left
  · intro W hSw
    obtain ⟨q1, q2, q3⟩ := hSw
    go_simp
    try with_reducible rfl
  try simp only [Act.put]
  refine wpAnyH_take (i := 11) (oi := _) (v := ?_) rfl (by kernel_rfl) (by kernel_rfl) (by kernel_rfl) (fun _ _ _ h => h) (Or.inl ⟨by rfl, ?_⟩) (by assumption) ?_
  rotate_left
  · intro W hSw
    obtain ⟨q1, q2, q3⟩ := hSw
    go_simp
    try with_reducible rfl
  try simp only [Act.put]
  refine wpAnyH_take (i := 12) (oi := _) (v := ?_) rfl (by kernel_rfl) (by kernel_rfl) (by kernel_rfl) (fun _ _ _ h => h) (Or.inl ⟨by rfl, ?_⟩) (by assumption) ?_
  rotate_left
  · intro W hSw
    obtain ⟨q1, q2, q3⟩ := hSw
    go_simp
    try with_reducible rfl
  try simp only [Act.put]
  refine wpAnyH_take (i := 13) (oi := _) (v := ?_) rfl (by kernel_rfl) (by kernel_rfl) (by kernel_rfl) (fun _ _ _ h => h) (Or.inl ⟨by rfl, ?_⟩) (by assumption) ?_
  rotate_left
  · intro W hSw
    obtain ⟨q1, q2, q3⟩ := hSw
    go_simp
    try with_reducible rfl
  try simp only [Act.put]
  refine wpAnyH_take (i := 14) (oi := _) (v := ?_) rfl (by kernel_rfl) (by kernel_rfl) (by kernel_rfl) (fun _ _ _ h => h) (Or.inl ⟨by rfl, ?_⟩) (by assumption) ?_
  rotate_left
  · intro W hSw
    obtain ⟨q1, q2, q3⟩ := hSw
    go_simp
    try with_reducible rfl
  try simp only [Act.put]
  refine wpAnyH_ready (rs := [15]) (by kernel_rfl) (by simp) ?_
  refine AllReadyH.cons rfl (fun K hK => ?_) AllReadyH.nil
  go_simp
  (go_at_call 21
   refine (HT.out _).mono ?_
   rintro e w8 ⟨g8, cp8, rfl, hy8, hb8⟩
   have HB8 : Hid (Below w7.heap.size w7 w8) := Lib.hid hb8
   have HB78 : Hid (Below w4.heap.size w4 w8) := Lib.hid (HB7.out.trans (hb8.mono HB7.out.size))
   have fa8 := conv_byt (show Byt w8 _ _ _ ([] ++ E1) from HY2''.out.kept HB78.out)
   have fb8 := conv_byt (show Byt w8 _ _ _ ([] ++ E2) from HY4.out.kept HB78.out)
   have fl8 := conv_byt (HYl.out.kept HB78.out)
   have f18 := conv_byt (HY7.out.kept hb8)
   have f28 := conv_byt hy8
   rw [← HSA.out] at fa8
   rw [← HSB.out] at fb8
   rw [← HSL.out] at fl8
   rw [← HS1.out] at f18
   rw [← HS2.out] at f28
   clear hy8 hb8)
  refine hK.out _ _ ⟨fa8, fb8, fl8⟩ (fun hHeld => ?_)
  clear hK K
  try simp only [Act.put, List.setIfInBounds_toArray, List.set_cons_zero, List.set_cons_succ]
  refine wpAnyH_ready (rs := [16]) (by kernel_rfl) (by simp) ?_
  refine AllReadyH.cons rfl (fun K hK => ?_) AllReadyH.nil
  go_simp
  refine hK.out _ _ ⟨fa8, fb8, fl8⟩ (fun hHeld => ?_)
  clear hK K
  try simp only [Act.put, List.setIfInBounds_toArray, List.set_cons_zero, List.set_cons_succ]
  refine wpAnyH_ready (rs := [17]) (by kernel_rfl) (by simp) ?_
  refine AllReadyH.cons rfl (fun K hK => ?_) AllReadyH.nil
  go_simp
  go_wp2_with fail
  refine hK.out _ _ ⟨fa8, fb8, fl8⟩ (fun hHeld => ?_)
  clear hK K
  try simp only [Act.put, List.setIfInBounds_toArray, List.set_cons_zero, List.set_cons_succ]
  refine wpAnyH_take (i := 18) (oi := _) (v := ?_) rfl (by kernel_rfl) (by kernel_rfl) (by kernel_rfl) (fun _ _ _ h => h) (Or.inl ⟨by rfl, ?_⟩) (by assumption) ?_
  rotate_left
  · intro W hSw
    obtain ⟨q1, q2, q3⟩ := hSw
    go_simp
    try with_reducible rfl
  try simp only [Act.put, List.setIfInBounds_toArray]
  refine wpAnyH_take (i := 19) (oi := _) (v := ?_) rfl (by kernel_rfl) (by kernel_rfl) (by kernel_rfl) (fun _ _ _ h => h) (Or.inl ⟨by rfl, ?_⟩) (by assumption) ?_
  rotate_left
  · intro W hSw
    obtain ⟨q1, q2, q3⟩ := hSw
    go_simp
    try with_reducible rfl
  try simp only [Act.put]
  refine wpAnyH_done (by kernel_rfl) ?_ _
  clear fa fb fl fa7 fb7 fl7 f17 fa8 fb8 fl8 f18 f28 hcat1 hcat2 hz1' hz2' hHeld
  go_wp2_with (first
    | (go_at_call 22; refine (HZ.out _).mono ?_; rintro e w' ⟨rfl, rfl⟩)
    | (go_at_call 23; refine (HY.out _).mono ?_; rintro e w' ⟨rfl, rfl⟩)
    | (go_at_call 20; refine (HR.out _).mono ?_; rintro e w9 ⟨g9, cp9, rfl, _, hb9⟩; have HB9 := Lib.hid hb9; clear hb9)
    | (go_at_call 21; refine (HT.out _).mono ?_; rintro e w10 ⟨g10, cp10, rfl, _, hb10⟩; have HB10 := Lib.hid hb10; clear hb10)
    | (go_at_call 13; refine (awake1_any _).mono ?_; rintro e w11 ⟨rfl, hb11⟩; have HB11 := Lib.hid hb11; clear hb11))
  go_ret
  have p8 := HB4.out.trans (HB78.out.mono HB4.out.size)
  have p9 := p8.trans (HB9.out.mono p8.size)
  have p10 := p9.trans (HB10.out.mono p9.size)
  exact ⟨rfl, p10.trans (HB11.out.mono p10.size)⟩
end Go.Proofs.Ytchdcimmbmphnaa
