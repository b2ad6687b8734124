/-
  LebPuts with others ahead that are not nil.
-/
import Derived.Test.YtchdcimmbmphnaaLn
import Derived.Test.YtchdcimmbmphnaaLo
import Derived.Deep.RegionWith
import Derived.Deep.RegionHeld3
import Derived.WalkSmall
import Derived.Laws.AppendOwnNone
namespace Go.Proofs.Ytchdcimmbmphnaa
open Go.RowKit
set_option linter.unusedVariables false
theorem byt_news {w : World} {ad : Addr} {n cap : Nat} {l : List Nat} (h : Byt w (some ad) n cap l) : ∀ j u, (l.map U8)[j]? = some u → w.cell? (ad.add j) = some u := by
  intro j u hu
  have hj : j < l.length := by
    have := (List.getElem?_eq_some_iff.1 hu).1
    rw [List.length_map] at this; exact this
  rw [map_getD l j hj] at hu
  obtain ⟨b', off, hA, _, hc⟩ := h.2.2.2.2 (by have := h.1; omega)
  injection hA with hA
  rw [hA, addr_add, hc j (by have := h.1; omega)]
  exact hu
theorem own_slice {w : World} {B n : Nat} {v : Value} {l : List Nat} (h : w.ownsRow B 5 1 v n (l.map U8)) (hx : ∀ x ∈ l, x < 256) : ∃ A cp, v = .slice A n cp ∧ Byt w A n cp l := by
  by_cases h0 : 0 < n
  · obtain ⟨g, cp, hv, hb, _⟩ := byt_of_own h h0 hx
    exact ⟨_, cp, hv, hb⟩
  · have hl : l = [] := List.eq_nil_of_length_eq_zero (by have := h.1; rw [List.length_map] at this; omega)
    subst hl
    obtain rfl : n = 0 := by omega
    rcases h.2 with ⟨hv, _⟩ | ⟨g, cap, cur, hv, _, _, hnc, hm, _⟩
    · exact ⟨none, 0, hv, byt_nil w⟩
    · exact ⟨_, cap, hv, rfl, by simp, Nat.zero_le _, hm, fun h => by omega⟩
theorem Byt.drop {w : World} {g n cap : Nat} {l : List Nat} (h : Byt w (some ⟨g, 0, none⟩) n cap l) (k : Nat) (hk : k < n) : Byt w (some ⟨g, k, none⟩) (n - k) (cap - k) (l.drop k) := by
  obtain ⟨hl, hx, hn, hcap, hc⟩ := h
  refine ⟨by rw [List.length_drop]; omega, fun x hm => hx x (List.mem_of_mem_drop hm), by omega, by omega, fun _ => ?_⟩
  obtain ⟨b', off, hA, hlt, hcell⟩ := hc (by omega)
  injection hA with hA
  injection hA with e1 e2 _
  subst e1
  subst e2
  refine ⟨g, k, rfl, hlt, fun j hj => ?_⟩
  have := hcell (k + j) (by omega)
  rw [Nat.zero_add] at this
  rw [this, List.getD_eq_getElem?_getD, List.getD_eq_getElem?_getD, List.getElem?_drop]
theorem str_size (l : List Nat) : (str l).size = l.length := by
  have := congrArg List.length (str_data l)
  rw [List.length_map, Array.length_toList] at this
  exact this
theorem str_app (a b : List Nat) : str a ++ str b = str (a ++ b) := by
  apply ByteArray.ext
  apply Array.toList_inj.1
  rw [ByteArray.data_append, Array.toList_append, str_data, str_data, str_data, ← List.map_append]
set_option maxHeartbeats 4000000 in
set_option maxRecDepth 100000 in
theorem puts_some (ad : Addr) (n cap : Nat) (l : List Nat) (n0 : Nat) (m0 : Int) (w : World) (hb : Byt w (some ad) n cap l) (hn40 : n ≤ 40) (hn0 : n0 < 2 ^ 64) (hm1 : -9223372036854775808 ≤ m0) (hm2 : m0 < 9223372036854775808) :
    Calls Try.prog 5 #[.slice (some ad) n cap, .int .u64 n0, .int .i64 m0] w fun e w' => e = .returned (.bool true) ∧ Below w.heap.size w w' := by
  obtain ⟨i0, hi, hz0, hz1, hz2⟩ := info_parts info5
  have hcap : cap ≤ 9223372036854775807 := hb.2.2.2.1
  have hlc : n ≤ cap := hb.2.2.1
  have hU := Leb.uns_enc n0 64 hn0 (by omega) (by omega)
  have hS := Leb.sgn_enc m0 64 hm1 hm2 (by omega) (by omega)
  rw [if_pos (by exact hn0)] at hU
  rw [if_pos (by unfold Leb.fit; exact ⟨hm1, hm2⟩)] at hS
  have HP := Lib.hid (fun A cp (W : World) (q : Byt W A n cp l) => Put_any A n cp l n0 W q (by omega) hn0)
  have HQ := Lib.hid (fun A cp (W : World) (q : Byt W A n cp l) => PutS_any A n cp l m0 W q (by omega) hm1 hm2)
  have HR := Lib.hid (fun W => refPut_any n0 W hn0)
  have HT := Lib.hid (fun W => refPutS_any m0 W hm1 hm2)
  have HZ := Lib.hid (fun W => size_any n0 W hn0)
  have HY := Lib.hid (fun W => sizeS_any m0 W hm1 hm2)
  have hk1 := Leb.szU_le 9 n0 (by omega)
  have hk2 := Leb.szS_le 9 m0 (by omega) (by omega)
  have HL1 := Lib.hid (Leb.enc_len (Leb.szU n0) n0)
  have HL2 := Lib.hid (Leb.enc_len (Leb.szS m0) m0)
  generalize Leb.enc (Leb.szU n0) n0 = E1 at *
  generalize Leb.enc (Leb.szS m0) m0 = E2 at *
  generalize Leb.szU n0 = k1 at *
  generalize Leb.szS m0 = k2 at *
  have HU := Lib.hid hU
  have HS := Lib.hid hS
  have HB := Lib.hid hb
  have hlen : Hid (l.length = n) := Lib.hid hb.1
  have hX1 : Hid (∀ u ∈ l.map U8, u.oneCell' = true) := Lib.hid (by
    intro u hu
    rw [List.mem_map] at hu
    obtain ⟨y, _, rfl⟩ := hu
    rfl)
  obtain ⟨X, hX⟩ : ∃ X, X = l.map U8 := ⟨_, rfl⟩
  rw [← hX] at hX1
  have hXl : Hid (X.length = n * 1) := Lib.hid (by rw [hX, List.length_map, hb.1, Nat.mul_one])
  have hXc : Hid (∀ W, Below w.heap.size w W → ∀ j u, X[j]? = some u → W.cell? (ad.add j) = some u) := Lib.hid (by
    intro W hW
    rw [hX]
    exact byt_news (hb.kept hW))
  have HXE := Lib.hid hX
  clear hU hS hn0 hm1 hm2 hb hX
  go_enter Try.func5, Try.ntmps5
  go_wp2_with (first
    | (at_builtin
       (refine wpList_append_own _ rfl (.tmp 19) (.tmp 20) 22 rfl w.heap.size 5 i0 _ 1 1 Try.underlying22 hi hz0 hz1 hz2 rfl (by decide) (.slice (some ⟨w.heap.size, 0, none⟩) 0 0) 0 [] rfl (World.ownsRow_lit w #[] 0 (Nat.le_refl _) (Nat.zero_le _) rfl) ad n cap X rfl hXl.out (hXc.out _ ((Below.refl _ _).alloc (Nat.le_refl _) _)) hX1.out ?c3 ?c4 ?c5 ?_)
       case c3 => unfold maxLen; omega
       case c4 => omega
       case c5 => simp
       intro v1 w1 hown1 hg1 _
       have hb1 : Below w.heap.size w w1 := ((Below.refl w.heap.size w).alloc (Nat.le_refl _) _).grown hg1 (by simp) (fun k hk => by simp [Value.ownBlock] at hk; omega)
       obtain ⟨A1, cp1, hv1, hy1⟩ := own_slice (l := l) (by rw [← HXE.out]; simpa using hown1) HB.out.2.1
       rw [hv1]
       have HY1 := Lib.hid hy1
       have HB1 := Lib.hid hb1
       clear hown1 hg1 hv1 hy1 hb1)
    | (go_at_call 18; refine (HP.out _ _ _ HY1.out).mono ?_; rintro e w2 ⟨g2, cp2, rfl, hy2, hb2⟩; have HY2 := Lib.hid hy2; have HB2 := Lib.hid (HB1.out.trans (hb2.mono HB1.out.size)); clear hy2 hb2)
    | (at_builtin
       (refine wpList_append_own _ rfl (.tmp 24) (.tmp 25) 22 rfl w2.heap.size 5 i0 _ 1 1 Try.underlying22 hi hz0 hz1 hz2 rfl (by decide) (.slice (some ⟨w2.heap.size, 0, none⟩) 0 0) 0 [] rfl (World.ownsRow_lit w2 #[] 0 (Nat.le_refl _) (Nat.zero_le _) rfl) ad n cap X rfl hXl.out (hXc.out _ (HB2.out.alloc HB2.out.size _)) hX1.out ?d3 ?d4 ?d5 ?_)
       case d3 => unfold maxLen; omega
       case d4 => omega
       case d5 => simp
       intro v3 w3 hown3 hg3 _
       have hb3 : Below w2.heap.size w2 w3 := ((Below.refl w2.heap.size w2).alloc (Nat.le_refl _) _).grown hg3 (by simp) (fun k hk => by simp [Value.ownBlock] at hk; omega)
       obtain ⟨A3, cp3, hv3, hy3⟩ := own_slice (l := l) (by rw [← HXE.out]; simpa using hown3) HB.out.2.1
       rw [hv3]
       have HY3 := Lib.hid hy3
       have HY2' := Lib.hid (HY2.out.kept hb3)
       have HB3 := Lib.hid (HB2.out.trans (hb3.mono HB2.out.size))
       clear hown3 hg3 hv3 hy3 hb3)
    | (go_at_call 19; refine (HQ.out _ _ _ HY3.out).mono ?_; rintro e w4 ⟨g4, cp4, rfl, hy4, hb4⟩; have HY4 := Lib.hid hy4; have HY2'' := Lib.hid (HY2'.out.kept hb4); have HB4 := Lib.hid (HB3.out.trans (hb4.mono HB3.out.size)); have hcp2 : n + k1 + 1 ≤ cp2 := HY2.out.2.2.1; have hcp4 : n + k2 + 1 ≤ cp4 := hy4.2.2.1; clear hy4 hb4)
    | (go_at_call 14; refine (unsigned_any _ _ _ E1 64 _ (by have := HY2''.out.drop n (by omega); rw [List.drop_append_of_le_length (by rw [hlen.out]; omega), List.drop_of_length_le (by rw [hlen.out]; omega), List.nil_append] at this; exact this)).mono ?_; rw [HU.out]; rintro e w5 ⟨rfl, rfl⟩)
    | (go_at_call 16; refine (signed_any _ _ _ E2 64 _ (by have := HY4.out.drop n (by omega); rw [List.drop_append_of_le_length (by rw [hlen.out]; omega), List.drop_of_length_le (by rw [hlen.out]; omega), List.nil_append] at this; exact this)).mono ?_; rw [HS.out]; rintro e w6 ⟨rfl, rfl⟩))
  have hcat1 := str_app l E1
  have hcat2 := str_app l E2
  have hz1' : (str l).size + (str E1).size ≤ 100 := by rw [str_size, str_size, hlen.out, HL1.out]; omega
  have hz2' : (str l).size + (str E2).size ≤ 100 := by rw [str_size, str_size, hlen.out, HL2.out]; omega
  have HYl : Hid (Byt w4 (some ad) n cap l) := Lib.hid (HB.out.kept HB4.out)
  have fa := conv_byt (show Byt w4.drew _ _ _ _ from HY2''.out)
  have fb := conv_byt (show Byt w4.drew _ _ _ _ from HY4.out)
  have fl := conv_byt (show Byt w4.drew _ _ _ _ from HYl.out)
  obtain ⟨SA, hSA⟩ : ∃ S, S = str (l ++ E1) := ⟨_, rfl⟩
  obtain ⟨SB, hSB⟩ : ∃ S, S = str (l ++ E2) := ⟨_, rfl⟩
  obtain ⟨SL, hSL⟩ : ∃ S, S = str l := ⟨_, rfl⟩
  obtain ⟨S1, hS1⟩ : ∃ S, S = str E1 := ⟨_, rfl⟩
  obtain ⟨S2, hS2⟩ : ∃ S, S = str E2 := ⟨_, rfl⟩
  rw [← hSA] at fa hcat1
  rw [← hSB] at fb hcat2
  rw [← hSL] at fl hcat1 hcat2 hz1' hz2'
  rw [← hS1] at hcat1 hz1'
  rw [← hS2] at hcat2 hz2'
  have HSA := Lib.hid hSA
  have HSB := Lib.hid hSB
  have HSL := Lib.hid hSL
  have HS1 := Lib.hid hS1
  have HS2 := Lib.hid hS2
  clear hSA hSB hSL hS1 hS2
  refine wp_region_held_drew (S := (fun w' => (convert 22 9 (.slice (some ⟨g2, 0, none⟩) (n + k1 + 1) cp2)).run Try.prog w' = .ok (.string SA) w' ∧ (convert 22 9 (.slice (some ⟨g4, 0, none⟩) (n + k2 + 1) cp4)).run Try.prog w' = .ok (.string SB) w' ∧ (convert 22 9 (.slice (some ad) n cap)).run Try.prog w' = .ok (.string SL) w')) (by kernel_rfl) ⟨fa, fb, fl⟩ (fun hHeld => ?_)
  refine wpAnyH_take (i := 0) (oi := _) (v := ?_) rfl (by kernel_rfl) (by kernel_rfl) (by kernel_rfl) (fun _ _ _ h => h) (Or.inl ⟨by rfl, ?_⟩) (by assumption) ?_
  rotate_left
  · intro W hSw
    obtain ⟨q1, q2, q3⟩ := hSw
    go_simp
    try with_reducible rfl
  try simp only [Act.put, List.setIfInBounds_toArray]
  refine wpAnyH_take (i := 1) (oi := _) (v := ?_) rfl (by kernel_rfl) (by kernel_rfl) (by kernel_rfl) (fun _ _ _ h => h) (Or.inl ⟨by rfl, ?_⟩) (by assumption) ?_
  rotate_left
  · intro W hSw
    obtain ⟨q1, q2, q3⟩ := hSw
    go_simp
    try with_reducible rfl
  try simp only [Act.put]
  refine wpAnyH_take (i := 2) (oi := _) (v := ?_) rfl (by kernel_rfl) (by kernel_rfl) (by kernel_rfl) (fun _ _ _ h => h) (Or.inl ⟨by rfl, ?_⟩) (by assumption) ?_
  rotate_left
  · intro W hSw
    obtain ⟨q1, q2, q3⟩ := hSw
    go_simp
    try with_reducible rfl
  try simp only [Act.put]
  refine wpAnyH_take (i := 3) (oi := _) (v := ?_) rfl (by kernel_rfl) (by kernel_rfl) (by kernel_rfl) (fun _ _ _ h => h) (Or.inl ⟨by rfl, ?_⟩) (by assumption) ?_
  rotate_left
  · intro W hSw
    obtain ⟨q1, q2, q3⟩ := hSw
    go_simp
    try with_reducible rfl
  try simp only [Act.put]
  refine wpAnyH_take (i := 4) (oi := _) (v := ?_) rfl (by kernel_rfl) (by kernel_rfl) (by kernel_rfl) (fun _ _ _ h => h) (Or.inl ⟨by rfl, ?_⟩) (by assumption) ?_
  rotate_left
  · intro W hSw
    obtain ⟨q1, q2, q3⟩ := hSw
    go_simp
    try with_reducible rfl
  try simp only [Act.put]
  refine wpAnyH_ready (rs := [5]) (by kernel_rfl) (by simp) ?_
  refine AllReadyH.cons rfl (fun K hK => ?_) AllReadyH.nil
  go_simp
  (go_at_call 20
   refine (HR.out _).mono ?_
   rintro e w7 ⟨g7, cp7, rfl, hy7, hb7⟩
   have HB7 : Hid (Below w4.heap.size w4 w7) := Lib.hid ⟨hb7.os, hb7.tape, hb7.output, hb7.size, hb7.block⟩
   have fa7 := conv_byt (HY2''.out.kept HB7.out)
   have fb7 := conv_byt (HY4.out.kept HB7.out)
   have fl7 := conv_byt (HYl.out.kept HB7.out)
   have f17 := conv_byt hy7
   rw [← HSA.out] at fa7
   rw [← HSB.out] at fb7
   rw [← HSL.out] at fl7
   rw [← HS1.out] at f17
   have HY7 := Lib.hid hy7
   clear hy7 hb7)
  refine hK.out _ _ ⟨fa7, fb7, fl7⟩ (fun hHeld => ?_)
  clear hK K
  try simp only [Act.put, List.setIfInBounds_toArray, List.set_cons_zero, List.set_cons_succ]
  refine wpAnyH_ready (rs := [6]) (by kernel_rfl) (by simp) ?_
  refine AllReadyH.cons rfl (fun K hK => ?_) AllReadyH.nil
  go_simp
  refine hK.out _ _ ⟨fa7, fb7, fl7⟩ (fun hHeld => ?_)
  clear hK K
  try simp only [Act.put, List.setIfInBounds_toArray, List.set_cons_zero, List.set_cons_succ]
  refine wpAnyH_ready (rs := [7]) (by kernel_rfl) (by simp) ?_
  refine AllReadyH.cons rfl (fun K hK => ?_) AllReadyH.nil
  go_simp
  go_wp2_with fail
  refine hK.out _ _ ⟨fa7, fb7, fl7⟩ (fun hHeld => ?_)
  clear hK K
  try simp only [Act.put, List.setIfInBounds_toArray, List.set_cons_zero, List.set_cons_succ]
  refine wpAnyH_take (i := 8) (oi := _) (v := ?_) rfl (by kernel_rfl) (by kernel_rfl) (by kernel_rfl) (fun _ _ _ h => h) (Or.inl ⟨by rfl, ?_⟩) (by assumption) ?_
  rotate_left
  · intro W hSw
    obtain ⟨q1, q2, q3⟩ := hSw
    go_simp
    try with_reducible rfl
  try simp only [Act.put, List.setIfInBounds_toArray]
  refine wpAnyH_take (i := 9) (oi := _) (v := ?_) rfl (by kernel_rfl) (by kernel_rfl) (by kernel_rfl) (fun _ _ _ h => h) (Or.inl ⟨by rfl, ?_⟩) (by assumption) ?_
  rotate_left
  · intro W hSw
    obtain ⟨q1, q2, q3⟩ := hSw
    go_simp
    try with_reducible rfl
  try simp only [Act.put]
  refine wpAnyH_take (i := 10) (oi := _) (v := ?_) rfl (by kernel_rfl) (by kernel_rfl) (by kernel_rfl) (fun _ _ _ h => h) (Or.inl ⟨by rfl, ?_⟩) (by assumption) ?_
  rotate_left
  · intro W hSw
    obtain ⟨q1, q2, q3⟩ := hSw
    go_simp
    try with_reducible rfl
  try simp only [Act.put]
  refine wpAnyH_take (i := 11) (oi := _) (v := ?_) rfl (by kernel_rfl) (by kernel_rfl) (by kernel_rfl) (fun _ _ _ h => h) (Or.inl ⟨by rfl, ?_⟩) (by assumption) ?_
  rotate_left
  · intro W hSw
    obtain ⟨q1, q2, q3⟩ := hSw
    go_simp
    try with_reducible rfl
  try simp only [Act.put]
  refine wpAnyH_take (i := 12) (oi := _) (v := ?_) rfl (by kernel_rfl) (by kernel_rfl) (by kernel_rfl) (fun _ _ _ h => h) (Or.inl ⟨by rfl, ?_⟩) (by assumption) ?_
  rotate_left
  · intro W hSw
    obtain ⟨q1, q2, q3⟩ := hSw
    go_simp
    try with_reducible rfl
  try simp only [Act.put]
  refine wpAnyH_take (i := 13) (oi := _) (v := ?_) rfl (by kernel_rfl) (by kernel_rfl) (by kernel_rfl) (fun _ _ _ h => h) (Or.inl ⟨by rfl, ?_⟩) (by assumption) ?_
  rotate_left
  · intro W hSw
    obtain ⟨q1, q2, q3⟩ := hSw
    go_simp
    try with_reducible rfl
  try simp only [Act.put]
  refine wpAnyH_take (i := 14) (oi := _) (v := ?_) rfl (by kernel_rfl) (by kernel_rfl) (by kernel_rfl) (fun _ _ _ h => h) (Or.inl ⟨by rfl, ?_⟩) (by assumption) ?_
  rotate_left
  · intro W hSw
    obtain ⟨q1, q2, q3⟩ := hSw
    go_simp
    try with_reducible rfl
  try simp only [Act.put]
  refine wpAnyH_ready (rs := [15]) (by kernel_rfl) (by simp) ?_
  refine AllReadyH.cons rfl (fun K hK => ?_) AllReadyH.nil
  go_simp
  (go_at_call 21
   refine (HT.out _).mono ?_
   rintro e w8 ⟨g8, cp8, rfl, hy8, hb8⟩
   have HB8 : Hid (Below w7.heap.size w7 w8) := Lib.hid hb8
   have HB78 : Hid (Below w4.heap.size w4 w8) := Lib.hid (HB7.out.trans (hb8.mono HB7.out.size))
   have fa8 := conv_byt (HY2''.out.kept HB78.out)
   have fb8 := conv_byt (HY4.out.kept HB78.out)
   have fl8 := conv_byt (HYl.out.kept HB78.out)
   have f18 := conv_byt (HY7.out.kept hb8)
   have f28 := conv_byt hy8
   rw [← HSA.out] at fa8
   rw [← HSB.out] at fb8
   rw [← HSL.out] at fl8
   rw [← HS1.out] at f18
   rw [← HS2.out] at f28
   clear hy8 hb8)
  refine hK.out _ _ ⟨fa8, fb8, fl8⟩ (fun hHeld => ?_)
  clear hK K
  try simp only [Act.put, List.setIfInBounds_toArray, List.set_cons_zero, List.set_cons_succ]
  refine wpAnyH_ready (rs := [16]) (by kernel_rfl) (by simp) ?_
  refine AllReadyH.cons rfl (fun K hK => ?_) AllReadyH.nil
  go_simp
  refine hK.out _ _ ⟨fa8, fb8, fl8⟩ (fun hHeld => ?_)
  clear hK K
  try simp only [Act.put, List.setIfInBounds_toArray, List.set_cons_zero, List.set_cons_succ]
  refine wpAnyH_ready (rs := [17]) (by kernel_rfl) (by simp) ?_
  refine AllReadyH.cons rfl (fun K hK => ?_) AllReadyH.nil
  go_simp
  go_wp2_with fail
  refine hK.out _ _ ⟨fa8, fb8, fl8⟩ (fun hHeld => ?_)
  clear hK K
  try simp only [Act.put, List.setIfInBounds_toArray, List.set_cons_zero, List.set_cons_succ]
  refine wpAnyH_take (i := 18) (oi := _) (v := ?_) rfl (by kernel_rfl) (by kernel_rfl) (by kernel_rfl) (fun _ _ _ h => h) (Or.inl ⟨by rfl, ?_⟩) (by assumption) ?_
  rotate_left
  · intro W hSw
    obtain ⟨q1, q2, q3⟩ := hSw
    go_simp
    try with_reducible rfl
  try simp only [Act.put, List.setIfInBounds_toArray]
  refine wpAnyH_take (i := 19) (oi := _) (v := ?_) rfl (by kernel_rfl) (by kernel_rfl) (by kernel_rfl) (fun _ _ _ h => h) (Or.inl ⟨by rfl, ?_⟩) (by assumption) ?_
  rotate_left
  · intro W hSw
    obtain ⟨q1, q2, q3⟩ := hSw
    go_simp
    try with_reducible rfl
  try simp only [Act.put]
  refine wpAnyH_done (by kernel_rfl) ?_ _
  clear fa fb fl fa7 fb7 fl7 f17 fa8 fb8 fl8 f18 f28 hcat1 hcat2 hz1' hz2' hHeld
  go_wp2_with (first
    | (go_at_call 22; refine (HZ.out _).mono ?_; rintro e w' ⟨rfl, rfl⟩)
    | (go_at_call 23; refine (HY.out _).mono ?_; rintro e w' ⟨rfl, rfl⟩)
    | (go_at_call 20; refine (HR.out _).mono ?_; rintro e w9 ⟨g9, cp9, rfl, _, hb9⟩; have HB9 := Lib.hid hb9; clear hb9)
    | (go_at_call 21; refine (HT.out _).mono ?_; rintro e w10 ⟨g10, cp10, rfl, _, hb10⟩; have HB10 := Lib.hid hb10; clear hb10)
    | (go_at_call 13; refine (awake1_any _).mono ?_; rintro e w11 ⟨rfl, hb11⟩; have HB11 := Lib.hid hb11; clear hb11))
  go_ret
  have p8 := HB4.out.trans (HB78.out.mono HB4.out.size)
  have p9 := p8.trans (HB9.out.mono p8.size)
  have p10 := p9.trans (HB10.out.mono p9.size)
  exact ⟨rfl, p10.trans (HB11.out.mono p10.size)⟩
end Go.Proofs.Ytchdcimmbmphnaa
