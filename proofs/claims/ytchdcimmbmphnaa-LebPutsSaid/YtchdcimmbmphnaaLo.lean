/-
  The document's own Put and PutSigned: the fewest bytes of any number.
-/
import Derived.Test.YtchdcimmbmphnaaLj
namespace Go.Proofs.Ytchdcimmbmphnaa
open Go.RowKit
set_option linter.unusedVariables false
theorem add128 (m : Int) (h : 0 ≤ m) : ∃ y : Nat, y = (m % 128).toNat + 128 ∧ (m % 128 + 128 : Int) = y := ⟨_, rfl, by omega⟩
set_option maxHeartbeats 1000000 in
set_option maxRecDepth 100000 in
theorem refPut_any (n0 : Nat) (w : World) (hn : n0 < 2 ^ 64) :
    Calls Try.prog 20 #[.int .u64 n0] w (PutPost w.heap.size (Leb.szU n0 + 1) (Leb.enc (Leb.szU n0) n0) w) := by
  obtain ⟨i0, hi, hz0, hz1, hz2⟩ := info_parts info5
  have h9 := Leb.szU_le 9 n0 (by omega)
  obtain ⟨E, hE⟩ : ∃ E, E = Leb.enc (Leb.szU n0) n0 := ⟨_, rfl⟩
  have hEl : Hid (E.length = Leb.szU n0 + 1) := Lib.hid (by rw [hE, Leb.enc_len])
  have hEx : Hid (∀ x ∈ E, x < 256) := Lib.hid (by rw [hE]; exact Leb.enc_lt _ _)
  rw [← hE]
  obtain ⟨K, hK⟩ : ∃ K, K = Leb.szU n0 + 1 := ⟨_, rfl⟩
  rw [← hK] at hEl ⊢
  have hK10 : K ≤ 10 := by omega
  have H0 : Hid (E = [] ++ Leb.enc (Leb.szU n0) (n0 : Nat)) := Lib.hid hE
  have HN0 := Lib.hid hn
  clear hE hK hn h9
  go_enter Try.func20, Try.ntmps20
  go_wp2
  go_loopw [0, 3] (fun v0 v3 wr => ∃ (m : Nat) (done : List Nat), v0 = .int .u64 m ∧ done.length < 10 ∧ Hid (m < 2 ^ 64) ∧ Hid (E = done ++ Leb.enc (Leb.szU m) m) ∧ Hid (wr.ownsRow w.heap.size 5 1 v3 done.length (done.map U8)) ∧ Hid (Below w.heap.size w wr)) (fun v0 _ _ => (intOf v0).toNat)
  case atStart => exact ⟨n0, [], rfl, by simp, HN0, H0, Lib.hid (World.ownsRow_nil _ _ _ _), Lib.hid (Below.refl _ _)⟩
  case round =>
    obtain ⟨m, done, rfl, hd10, HM, HE, HO, HBl⟩ := hrel
    by_cases hlt : m < 128
    · have HE2 : Hid (E = done ++ [m]) := Lib.hid (by
        rw [HE.out, Leb.szU_lo m hlt, Leb.enc]
        congr 2
        omega)
      have HKl : Hid (K = done.length + 1) := Lib.hid (by rw [← hEl.out, HE2.out]; simp)
      go_wp2_with (at_builtin; refine wpList_append_own _ rfl (.tmp 15) (.tmp 18) 22 rfl w.heap.size 5 i0 _ 1 1 Try.underlying22 hi hz0 hz1 hz2 rfl (by decide) _ done.length _ rfl (HO.out.alloc _) ⟨wr.heap.size, 0, none⟩ 1 1 [U8 m] rfl rfl (cell_new _ _ _) ?c2 ?c3 ?c4 ?c5 ?_)
      case c2 => intro u hu; simp at hu; subst hu; rfl
      case c3 => unfold maxLen; omega
      case c4 => omega
      case c5 => have := HBl.out.size; simp; omega
      intro v1 w3 hown1 hg1 _
      have HB3 : Hid (Below w.heap.size w w3) := Lib.hid (own_below HBl.out HBl.out.size HO.out hg1)
      have HF : Hid (∃ g cp, v1 = .slice (some ⟨g, 0, none⟩) (done.length + 1) cp ∧ Byt w3 (some ⟨g, 0, none⟩) (done.length + 1) cp E ∧ w.heap.size ≤ g) := Lib.hid (byt_of_own (by rw [HE2.out, List.map_append]; exact hown1) (by omega) hEx.out)
      clear hown1 hg1
      go_wp2
      go_ret
      obtain ⟨g, cp, hv, hby, _⟩ := HF.out
      rw [HKl.out]
      exact ⟨g, cp, by rw [hv]; rfl, hby, HB3.out⟩
    · obtain ⟨y, hy, hye⟩ := add128 m (by omega)
      have HE2 : Hid (E = (done ++ [y]) ++ Leb.enc (Leb.szU (m / 128)) (m / 128 : Nat)) := Lib.hid (by
        rw [HE.out, Leb.szU_hi m hlt, Leb.enc, List.append_assoc, hy]; rfl)
      have hd2 : done.length + 1 < 10 := by
        have := congrArg List.length HE2.out
        rw [hEl.out, List.length_append, List.length_append, Leb.enc_len, List.length_singleton] at this
        omega
      have hwr : IntKind.u64.wrap ((m : Int) / 128) = (m : Int) / 128 := by have := HM.out; rw [IntKind.wrap_u64]; omega
      clear hy
      go_wp2_with (at_builtin; refine wpList_append_own _ rfl (.tmp 6) (.tmp 11) 22 rfl w.heap.size 5 i0 _ 1 1 Try.underlying22 hi hz0 hz1 hz2 rfl (by decide) _ done.length _ rfl (HO.out.alloc _) ⟨wr.heap.size, 0, none⟩ 1 1 [U8 y] rfl rfl (cell_new _ _ _) ?c2 ?c3 ?c4 ?c5 ?_)
      case c2 => intro u hu; simp at hu; subst hu; rfl
      case c3 => unfold maxLen; omega
      case c4 => omega
      case c5 => have := HBl.out.size; simp; omega
      intro v1 w3 hown1 hg1 _
      have HB3 : Hid (Below w.heap.size w w3) := Lib.hid (own_below HBl.out HBl.out.size HO.out hg1)
      have HO3 : Hid (w3.ownsRow w.heap.size 5 1 v1 (done ++ [y]).length ((done ++ [y]).map U8)) := Lib.hid (by
        rw [List.map_append, List.length_append]; exact hown1)
      have hd3 : (done ++ [y]).length < 10 := by rw [List.length_append, List.length_singleton]; omega
      have HMS : Hid (((m / 128 : Nat) : Int).toNat < (m : Int).toNat) := Lib.hid (by omega)
      clear hown1 hg1 hye
      go_wp2
      go_roundw
      case rel => exact ⟨m / 128, done ++ [y], by go_num, hd3, Lib.hid (by have := HM.out; omega), HE2, HO3, HB3⟩
      case measure => simp [intOf]; omega

/-- the low seven bits and the rest of a number with a sign, as the program's text reckons them -/
theorem low_facts (m : Int) (h1 : -9223372036854775808 ≤ m) (h2 : m < 9223372036854775808) : ∃ (y : Nat) (q P : Int), y < 128 ∧ y = (m % 128).toNat ∧ q = m / 128 ∧ P = 128 * q ∧ (m.tmod 128 = (y : Int) ∨ (m.tmod 128 = (y : Int) - 128)) ∧
    m - (y : Int) = P ∧ wrap64 P = P ∧ P.tdiv 128 = q ∧ wrap64 q = q := by
  refine ⟨(m % 128).toNat, m / 128, 128 * (m / 128), by omega, rfl, rfl, rfl, ?_, by omega, by unfold wrap64; omega, ?_, by unfold wrap64; omega⟩
  · rcases Int.lt_or_le m 0 with h | h
    · have e : m.tmod 128 = -((-m) % 128) := by
        have : m = -(-m) := by omega
        rw [this, Int.neg_tmod, Int.tmod_eq_emod_of_nonneg (by omega)]
        simp
      rw [e]; omega
    · rw [Int.tmod_eq_emod_of_nonneg h]; omega
  · exact Int.mul_tdiv_cancel_left _ (by omega)
set_option maxHeartbeats 2000000 in
set_option maxRecDepth 100000 in
theorem refPutS_any (n0 : Int) (w : World) (hn : -9223372036854775808 ≤ n0) (hn2 : n0 < 9223372036854775808) :
    Calls Try.prog 21 #[.int .i64 n0] w (PutPost w.heap.size (Leb.szS n0 + 1) (Leb.enc (Leb.szS n0) n0) w) := by
  obtain ⟨i0, hi, hz0, hz1, hz2⟩ := info_parts info5
  have h9 := Leb.szS_le 9 n0 (by omega) (by omega)
  obtain ⟨E, hE⟩ : ∃ E, E = Leb.enc (Leb.szS n0) n0 := ⟨_, rfl⟩
  have hEl : Hid (E.length = Leb.szS n0 + 1) := Lib.hid (by rw [hE, Leb.enc_len])
  have hEx : Hid (∀ x ∈ E, x < 256) := Lib.hid (by rw [hE]; exact Leb.enc_lt _ _)
  rw [← hE]
  obtain ⟨K, hK⟩ : ∃ K, K = Leb.szS n0 + 1 := ⟨_, rfl⟩
  rw [← hK] at hEl ⊢
  have hK10 : K ≤ 10 := by omega
  have H0 : Hid (E = [] ++ Leb.enc (Leb.szS n0) n0) := Lib.hid hE
  have HN0 : Hid (-9223372036854775808 ≤ n0 ∧ n0 < 9223372036854775808) := Lib.hid ⟨hn, hn2⟩
  clear hE hK hn hn2 h9
  go_enter Try.func21, Try.ntmps21
  go_wp2
  go_loopw [0, 3, 4] (fun v0 v3 v4 wr => ∃ (m : Int) (done : List Nat), v0 = .int .i64 m ∧ v4 = .int .i64 done.length ∧ done.length < 10 ∧ Hid (-9223372036854775808 ≤ m ∧ m < 9223372036854775808) ∧ Hid (E = done ++ Leb.enc (Leb.szS m) m) ∧ Hid (wr.ownsRow w.heap.size 5 1 v3 done.length (done.map U8)) ∧ Hid (Below w.heap.size w wr)) (fun _ _ v4 _ => 10 - (intOf v4).toNat)
  case atStart => exact ⟨n0, [], rfl, rfl, by simp, HN0, H0, Lib.hid (World.ownsRow_nil _ _ _ _), Lib.hid (Below.refl _ _)⟩
  case round =>
    obtain ⟨m, done, rfl, rfl, hd10, HM, HE, HO, HBl⟩ := hrel
    obtain ⟨y, q, P, hy128, hyE, hqE, hPE, ht, hsub, hwP, hqd, hwq⟩ := low_facts m HM.out.1 HM.out.2
    have HQr : Hid (-9223372036854775808 ≤ q ∧ q < 9223372036854775808) := Lib.hid (by have := HM.out; omega)
    have HYE := Lib.hid hyE
    have HQE := Lib.hid hqE
    have hlen2 : Hid (done.length + Leb.szS m + 1 = K) := Lib.hid (by
      have := congrArg List.length HE.out
      rw [hEl.out, List.length_append, Leb.enc_len] at this
      omega)
    have hwy : ((y : Nat) : Int) % 256 = y := by omega
    by_cases hin : -64 ≤ m ∧ m < 64
    · have hqy : (q = 0 ∧ y < 64) ∨ (q = -1 ∧ 64 ≤ y) := by omega
      have HE2 : Hid (E = done ++ [y]) := Lib.hid (by rw [HE.out, Leb.szS_lo m hin, Leb.enc, HYE.out])
      have HKl : Hid (K = done.length + 1) := Lib.hid (by rw [← hlen2.out, Leb.szS_lo m hin])
      have hnl : ¬ m < -9223372036854775680 := by omega
      clear hin hyE hqE hPE
      rcases hqy with ⟨rfl, hy64⟩ | ⟨rfl, hy64⟩ <;> rcases ht with ht | ht
      all_goals
        go_wp2_with (at_builtin; refine wpList_append_own _ rfl (.tmp 37) (.tmp 40) 22 rfl w.heap.size 5 i0 _ 1 1 Try.underlying22 hi hz0 hz1 hz2 rfl (by decide) _ done.length _ rfl (HO.out.alloc _) ⟨wr.heap.size, 0, none⟩ 1 1 [U8 y] rfl rfl (cell_new _ _ _) ?c2 ?c3 ?c4 ?c5 ?_)
        case c2 => first | rfl | (intro u hu; simp at hu; subst hu; rfl)
        case c3 => first | omega | (unfold maxLen; omega)
        case c4 => omega
        case c5 => have := HBl.out.size; first | omega | (simp; omega)
        intro v1 w3 hown1 hg1 _
        have HB3 : Hid (Below w.heap.size w w3) := Lib.hid (own_below HBl.out HBl.out.size HO.out hg1)
        have HF : Hid (∃ g cp, v1 = .slice (some ⟨g, 0, none⟩) (done.length + 1) cp ∧ Byt w3 (some ⟨g, 0, none⟩) (done.length + 1) cp E ∧ w.heap.size ≤ g) := Lib.hid (byt_of_own (by rw [HE2.out, List.map_append]; exact hown1) (by omega) hEx.out)
        clear hown1 hg1
        go_wp2
        go_ret
        obtain ⟨g, cp, hv, hby, _⟩ := HF.out
        rw [HKl.out]
        exact ⟨g, cp, by rw [hv]; rfl, hby, HB3.out⟩
    · have hqy : (q ≠ 0 ∧ q ≠ -1) ∨ (q = 0 ∧ 64 ≤ y) ∨ (q = -1 ∧ y < 64) := by omega
      obtain ⟨y2, hy2⟩ : ∃ y2, y2 = y + 128 := ⟨_, rfl⟩
      have HE2 : Hid (E = (done ++ [y2]) ++ Leb.enc (Leb.szS q) q) := Lib.hid (by
        rw [HE.out, Leb.szS_hi m hin, Leb.enc, List.append_assoc, hy2, HYE.out, HQE.out]; rfl)
      have hd2 : done.length + 1 < 10 := by
        have := congrArg List.length HE2.out
        rw [hEl.out, List.length_append, List.length_append, Leb.enc_len, List.length_singleton] at this
        omega
      have hd3 : Hid ((done ++ [y2]).length = done.length + 1) := Lib.hid (by rw [List.length_append]; rfl)
      have hyy : ((y : Nat) : Int) + 128 = (y2 : Nat) := by omega
      have hcases : ((q == 0) = false ∧ (q == -1) = false ∧ ¬ m < -9223372036854775680) ∨ (q = 0 ∧ 64 ≤ y ∧ ¬ m < -9223372036854775680) ∨ (q = -1 ∧ y < 64 ∧ ¬ m < -9223372036854775680) ∨ (m < -9223372036854775680 ∧ Hid (q = -72057594037927936)) := by
        by_cases hl : m < -9223372036854775680
        · exact .inr (.inr (.inr ⟨hl, Lib.hid (by have := HM.out; omega)⟩))
        · rcases hqy with ⟨h1, h2⟩ | ⟨h1, h2⟩ | ⟨h1, h2⟩
          · exact .inl ⟨beq_eq_false_iff_ne.2 h1, beq_eq_false_iff_ne.2 h2, hl⟩
          · exact .inr (.inl ⟨h1, h2, hl⟩)
          · exact .inr (.inr (.inl ⟨h1, h2, hl⟩))
      clear hin hyE hqE hPE hqy hy2
      rcases hcases with ⟨g1, g2, g3⟩ | ⟨rfl, g2, g3⟩ | ⟨rfl, g2, g3⟩ | ⟨g3, HG⟩ <;> rcases ht with ht | ht
      all_goals
        go_wp2_with (at_builtin; refine wpList_append_own _ rfl (.tmp 42) (.tmp 46) 22 rfl w.heap.size 5 i0 _ 1 1 Try.underlying22 hi hz0 hz1 hz2 rfl (by decide) _ done.length _ rfl (HO.out.alloc _) ⟨wr.heap.size, 0, none⟩ 1 1 [U8 y2] rfl rfl (cell_new _ _ _) ?c2 ?c3 ?c4 ?c5 ?_)
        case c2 => first | rfl | (intro u hu; simp at hu; subst hu; rfl)
        case c3 => first | omega | (unfold maxLen; omega)
        case c4 => omega
        case c5 => have := HBl.out.size; first | omega | (simp; omega)
        intro v1 w3 hown1 hg1 _
        have HB3 : Hid (Below w.heap.size w w3) := Lib.hid (own_below HBl.out HBl.out.size HO.out hg1)
        have HO3 : Hid (w3.ownsRow w.heap.size 5 1 v1 (done ++ [y2]).length ((done ++ [y2]).map U8)) := Lib.hid (by
          rw [List.map_append, List.length_append]; exact hown1)
        clear hown1 hg1 ht hsub hwP hqd hwq hyy g3
        go_wp2
        go_roundw
        case rel =>
          first
            | exact ⟨_, done ++ [y2], rfl, by rw [hd3.out]; go_num, by rw [hd3.out]; exact hd2, HQr, HE2, HO3, HB3⟩
            | (rw [HG.out] at HQr HE2; exact ⟨_, done ++ [y2], rfl, by rw [hd3.out]; go_num, by rw [hd3.out]; exact hd2, HQr, HE2, HO3, HB3⟩)
        case measure => simp [intOf]; omega
end Go.Proofs.Ytchdcimmbmphnaa
