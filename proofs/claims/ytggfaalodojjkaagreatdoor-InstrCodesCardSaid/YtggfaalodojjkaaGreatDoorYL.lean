/-
  Texts of YtggfaalodojjkaaGreatDoorYL.
-/
import Derived.Test.YtggfaalodojjkaaGreatDoorQLj
import Derived.Test.YtggfaalodojjkaaGreatDoorY8
import Derived.Test.YtggfaalodojjkaaGreatDoorYD
import Derived.Test.YtggfaalodojjkaaGreatDoorYF
namespace Go.Proofs.YtggfaalodojjkaaGreatDoor
open Go.RowKit
set_option linter.unusedVariables false
theorem add128 (m : Int) (h : 0 ≤ m) : ∃ y : Nat, y = (m % 128).toNat + 128 ∧ (m % 128 + 128 : Int) = y := ⟨_, rfl, by omega⟩
set_option maxHeartbeats 1000000 in
set_option maxRecDepth 100000 in
theorem refPut_any (n0 : Nat) (w : World) (hn : n0 < 2 ^ 64) :
    Calls Tryz.prog 42 #[.int .u64 n0] w (PutPost w.heap.size (Leb.szU n0 + 1) (Leb.enc (Leb.szU n0) n0) w) := by
  obtain ⟨i0, hi, hz0, hz1, hz2⟩ := info_parts info5
  have h9 := Leb.szU_le 9 n0 (by omega)
  obtain ⟨E, hE⟩ : ∃ E, E = Leb.enc (Leb.szU n0) n0 := ⟨_, rfl⟩
  have hEl : Hid (E.length = Leb.szU n0 + 1) := Lib.hid (by rw [hE, Leb.enc_len])
  have hEx : Hid (∀ x ∈ E, x < 256) := Lib.hid (by rw [hE]; exact Leb.enc_lt _ _)
  rw [← hE]
  obtain ⟨K, hK⟩ : ∃ K, K = Leb.szU n0 + 1 := ⟨_, rfl⟩
  rw [← hK] at hEl ⊢
  have hK10 : K ≤ 10 := by omega
  have H0 : Hid (E = [] ++ Leb.enc (Leb.szU n0) (n0 : Nat)) := Lib.hid hE
  have HN0 := Lib.hid hn
  clear hE hK hn h9
  go_enter Tryz.func42, Tryz.ntmps42
  go_wp2
  go_loopw [0, 3] (fun v0 v3 wr => ∃ (m : Nat) (done : List Nat), v0 = .int .u64 m ∧ done.length < 10 ∧ Hid (m < 2 ^ 64) ∧ Hid (E = done ++ Leb.enc (Leb.szU m) m) ∧ Hid (wr.ownsRow w.heap.size 5 1 v3 done.length (done.map U8)) ∧ Hid (Below w.heap.size w wr)) (fun v0 _ _ => (intOf v0).toNat)
  case atStart => exact ⟨n0, [], rfl, by simp, HN0, H0, Lib.hid (World.ownsRow_nil _ _ _ _), Lib.hid (Below.refl _ _)⟩
  case round =>
    obtain ⟨m, done, rfl, hd10, HM, HE, HO, HBl⟩ := hrel
    by_cases hlt : m < 128
    · have HE2 : Hid (E = done ++ [m]) := Lib.hid (by
        rw [HE.out, Leb.szU_lo m hlt, Leb.enc]
        congr 2
        omega)
      have HKl : Hid (K = done.length + 1) := Lib.hid (by rw [← hEl.out, HE2.out]; simp)
      go_wp2_with (at_builtin; refine wpList_append_own _ rfl (.tmp 15) (.tmp 18) 27 rfl w.heap.size 5 i0 _ 1 1 Tryz.underlying27 hi hz0 hz1 hz2 rfl (by decide) _ done.length _ rfl (HO.out.alloc _) ⟨wr.heap.size, 0, none⟩ 1 1 [U8 m] rfl rfl (cell_new _ _ _) ?c2 ?c3 ?c4 ?c5 ?_)
      case c2 => intro u hu; simp at hu; subst hu; rfl
      case c3 => unfold maxLen; omega
      case c4 => omega
      case c5 => have := HBl.out.size; simp; omega
      intro v1 w3 hown1 hg1 _
      have HB3 : Hid (Below w.heap.size w w3) := Lib.hid (own_below HBl.out HBl.out.size HO.out hg1)
      have HF : Hid (∃ g cp, v1 = .slice (some ⟨g, 0, none⟩) (done.length + 1) cp ∧ Byt w3 (some ⟨g, 0, none⟩) (done.length + 1) cp E ∧ w.heap.size ≤ g) := Lib.hid (byt_of_own (by rw [HE2.out, List.map_append]; exact hown1) (by omega) hEx.out)
      clear hown1 hg1
      go_wp2
      go_ret
      obtain ⟨g, cp, hv, hby, _⟩ := HF.out
      rw [HKl.out]
      exact ⟨g, cp, by rw [hv]; rfl, hby, HB3.out⟩
    · obtain ⟨y, hy, hye⟩ := add128 m (by omega)
      have HE2 : Hid (E = (done ++ [y]) ++ Leb.enc (Leb.szU (m / 128)) (m / 128 : Nat)) := Lib.hid (by
        rw [HE.out, Leb.szU_hi m hlt, Leb.enc, List.append_assoc, hy]; rfl)
      have hd2 : done.length + 1 < 10 := by
        have := congrArg List.length HE2.out
        rw [hEl.out, List.length_append, List.length_append, Leb.enc_len, List.length_singleton] at this
        omega
      have hwr : IntKind.u64.wrap ((m : Int) / 128) = (m : Int) / 128 := by have := HM.out; rw [IntKind.wrap_u64]; omega
      clear hy
      go_wp2_with (at_builtin; refine wpList_append_own _ rfl (.tmp 6) (.tmp 11) 27 rfl w.heap.size 5 i0 _ 1 1 Tryz.underlying27 hi hz0 hz1 hz2 rfl (by decide) _ done.length _ rfl (HO.out.alloc _) ⟨wr.heap.size, 0, none⟩ 1 1 [U8 y] rfl rfl (cell_new _ _ _) ?c2 ?c3 ?c4 ?c5 ?_)
      case c2 => intro u hu; simp at hu; subst hu; rfl
      case c3 => unfold maxLen; omega
      case c4 => omega
      case c5 => have := HBl.out.size; simp; omega
      intro v1 w3 hown1 hg1 _
      have HB3 : Hid (Below w.heap.size w w3) := Lib.hid (own_below HBl.out HBl.out.size HO.out hg1)
      have HO3 : Hid (w3.ownsRow w.heap.size 5 1 v1 (done ++ [y]).length ((done ++ [y]).map U8)) := Lib.hid (by
        rw [List.map_append, List.length_append]; exact hown1)
      have hd3 : (done ++ [y]).length < 10 := by rw [List.length_append, List.length_singleton]; omega
      have HMS : Hid (((m / 128 : Nat) : Int).toNat < (m : Int).toNat) := Lib.hid (by omega)
      clear hown1 hg1 hye
      go_wp2
      go_roundw
      case rel => exact ⟨m / 128, done ++ [y], by go_num, hd3, Lib.hid (by have := HM.out; omega), HE2, HO3, HB3⟩
      case measure => simp [intOf]; omega

/-- the low seven bits and the rest of a number with a sign, as the program's text reckons them -/
theorem low_facts (m : Int) (h1 : -9223372036854775808 ≤ m) (h2 : m < 9223372036854775808) : ∃ (y : Nat) (q P : Int), y < 128 ∧ y = (m % 128).toNat ∧ q = m / 128 ∧ P = 128 * q ∧ (m.tmod 128 = (y : Int) ∨ (m.tmod 128 = (y : Int) - 128)) ∧
    m - (y : Int) = P ∧ wrap64 P = P ∧ P.tdiv 128 = q ∧ wrap64 q = q := by
  refine ⟨(m % 128).toNat, m / 128, 128 * (m / 128), by omega, rfl, rfl, rfl, ?_, by omega, by unfold wrap64; omega, ?_, by unfold wrap64; omega⟩
  · rcases Int.lt_or_le m 0 with h | h
    · have e : m.tmod 128 = -((-m) % 128) := by
        have : m = -(-m) := by omega
        rw [this, Int.neg_tmod, Int.tmod_eq_emod_of_nonneg (by omega)]
        simp
      rw [e]; omega
    · rw [Int.tmod_eq_emod_of_nonneg h]; omega
  · exact Int.mul_tdiv_cancel_left _ (by omega)
set_option maxHeartbeats 2000000 in
set_option maxRecDepth 100000 in
theorem refPutS_any (n0 : Int) (w : World) (hn : -9223372036854775808 ≤ n0) (hn2 : n0 < 9223372036854775808) :
    Calls Tryz.prog 43 #[.int .i64 n0] w (PutPost w.heap.size (Leb.szS n0 + 1) (Leb.enc (Leb.szS n0) n0) w) := by
  obtain ⟨i0, hi, hz0, hz1, hz2⟩ := info_parts info5
  have h9 := Leb.szS_le 9 n0 (by omega) (by omega)
  obtain ⟨E, hE⟩ : ∃ E, E = Leb.enc (Leb.szS n0) n0 := ⟨_, rfl⟩
  have hEl : Hid (E.length = Leb.szS n0 + 1) := Lib.hid (by rw [hE, Leb.enc_len])
  have hEx : Hid (∀ x ∈ E, x < 256) := Lib.hid (by rw [hE]; exact Leb.enc_lt _ _)
  rw [← hE]
  obtain ⟨K, hK⟩ : ∃ K, K = Leb.szS n0 + 1 := ⟨_, rfl⟩
  rw [← hK] at hEl ⊢
  have hK10 : K ≤ 10 := by omega
  have H0 : Hid (E = [] ++ Leb.enc (Leb.szS n0) n0) := Lib.hid hE
  have HN0 : Hid (-9223372036854775808 ≤ n0 ∧ n0 < 9223372036854775808) := Lib.hid ⟨hn, hn2⟩
  clear hE hK hn hn2 h9
  go_enter Tryz.func43, Tryz.ntmps43
  go_wp2
  go_loopw [0, 3, 4] (fun v0 v3 v4 wr => ∃ (m : Int) (done : List Nat), v0 = .int .i64 m ∧ v4 = .int .i64 done.length ∧ done.length < 10 ∧ Hid (-9223372036854775808 ≤ m ∧ m < 9223372036854775808) ∧ Hid (E = done ++ Leb.enc (Leb.szS m) m) ∧ Hid (wr.ownsRow w.heap.size 5 1 v3 done.length (done.map U8)) ∧ Hid (Below w.heap.size w wr)) (fun _ _ v4 _ => 10 - (intOf v4).toNat)
  case atStart => exact ⟨n0, [], rfl, rfl, by simp, HN0, H0, Lib.hid (World.ownsRow_nil _ _ _ _), Lib.hid (Below.refl _ _)⟩
  case round =>
    obtain ⟨m, done, rfl, rfl, hd10, HM, HE, HO, HBl⟩ := hrel
    obtain ⟨y, q, P, hy128, hyE, hqE, hPE, ht, hsub, hwP, hqd, hwq⟩ := low_facts m HM.out.1 HM.out.2
    have HQr : Hid (-9223372036854775808 ≤ q ∧ q < 9223372036854775808) := Lib.hid (by have := HM.out; omega)
    have HYE := Lib.hid hyE
    have HQE := Lib.hid hqE
    have hlen2 : Hid (done.length + Leb.szS m + 1 = K) := Lib.hid (by
      have := congrArg List.length HE.out
      rw [hEl.out, List.length_append, Leb.enc_len] at this
      omega)
    have hwy : ((y : Nat) : Int) % 256 = y := by omega
    by_cases hin : -64 ≤ m ∧ m < 64
    · have hqy : (q = 0 ∧ y < 64) ∨ (q = -1 ∧ 64 ≤ y) := by omega
      have HE2 : Hid (E = done ++ [y]) := Lib.hid (by rw [HE.out, Leb.szS_lo m hin, Leb.enc, HYE.out])
      have HKl : Hid (K = done.length + 1) := Lib.hid (by rw [← hlen2.out, Leb.szS_lo m hin])
      have hnl : ¬ m < -9223372036854775680 := by omega
      clear hin hyE hqE hPE
      rcases hqy with ⟨rfl, hy64⟩ | ⟨rfl, hy64⟩ <;> rcases ht with ht | ht
      all_goals
        go_wp2_with (at_builtin; refine wpList_append_own _ rfl (.tmp 37) (.tmp 40) 27 rfl w.heap.size 5 i0 _ 1 1 Tryz.underlying27 hi hz0 hz1 hz2 rfl (by decide) _ done.length _ rfl (HO.out.alloc _) ⟨wr.heap.size, 0, none⟩ 1 1 [U8 y] rfl rfl (cell_new _ _ _) ?c2 ?c3 ?c4 ?c5 ?_)
        case c2 => first | rfl | (intro u hu; simp at hu; subst hu; rfl)
        case c3 => first | omega | (unfold maxLen; omega)
        case c4 => omega
        case c5 => have := HBl.out.size; first | omega | (simp; omega)
        intro v1 w3 hown1 hg1 _
        have HB3 : Hid (Below w.heap.size w w3) := Lib.hid (own_below HBl.out HBl.out.size HO.out hg1)
        have HF : Hid (∃ g cp, v1 = .slice (some ⟨g, 0, none⟩) (done.length + 1) cp ∧ Byt w3 (some ⟨g, 0, none⟩) (done.length + 1) cp E ∧ w.heap.size ≤ g) := Lib.hid (byt_of_own (by rw [HE2.out, List.map_append]; exact hown1) (by omega) hEx.out)
        clear hown1 hg1
        go_wp2
        go_ret
        obtain ⟨g, cp, hv, hby, _⟩ := HF.out
        rw [HKl.out]
        exact ⟨g, cp, by rw [hv]; rfl, hby, HB3.out⟩
    · have hqy : (q ≠ 0 ∧ q ≠ -1) ∨ (q = 0 ∧ 64 ≤ y) ∨ (q = -1 ∧ y < 64) := by omega
      obtain ⟨y2, hy2⟩ : ∃ y2, y2 = y + 128 := ⟨_, rfl⟩
      have HE2 : Hid (E = (done ++ [y2]) ++ Leb.enc (Leb.szS q) q) := Lib.hid (by
        rw [HE.out, Leb.szS_hi m hin, Leb.enc, List.append_assoc, hy2, HYE.out, HQE.out]; rfl)
      have hd2 : done.length + 1 < 10 := by
        have := congrArg List.length HE2.out
        rw [hEl.out, List.length_append, List.length_append, Leb.enc_len, List.length_singleton] at this
        omega
      have hd3 : Hid ((done ++ [y2]).length = done.length + 1) := Lib.hid (by rw [List.length_append]; rfl)
      have hyy : ((y : Nat) : Int) + 128 = (y2 : Nat) := by omega
      have hcases : ((q == 0) = false ∧ (q == -1) = false ∧ ¬ m < -9223372036854775680) ∨ (q = 0 ∧ 64 ≤ y ∧ ¬ m < -9223372036854775680) ∨ (q = -1 ∧ y < 64 ∧ ¬ m < -9223372036854775680) ∨ (m < -9223372036854775680 ∧ Hid (q = -72057594037927936)) := by
        by_cases hl : m < -9223372036854775680
        · exact .inr (.inr (.inr ⟨hl, Lib.hid (by have := HM.out; omega)⟩))
        · rcases hqy with ⟨h1, h2⟩ | ⟨h1, h2⟩ | ⟨h1, h2⟩
          · exact .inl ⟨beq_eq_false_iff_ne.2 h1, beq_eq_false_iff_ne.2 h2, hl⟩
          · exact .inr (.inl ⟨h1, h2, hl⟩)
          · exact .inr (.inr (.inl ⟨h1, h2, hl⟩))
      clear hin hyE hqE hPE hqy hy2
      rcases hcases with ⟨g1, g2, g3⟩ | ⟨rfl, g2, g3⟩ | ⟨rfl, g2, g3⟩ | ⟨g3, HG⟩ <;> rcases ht with ht | ht
      all_goals
        go_wp2_with (at_builtin; refine wpList_append_own _ rfl (.tmp 42) (.tmp 46) 27 rfl w.heap.size 5 i0 _ 1 1 Tryz.underlying27 hi hz0 hz1 hz2 rfl (by decide) _ done.length _ rfl (HO.out.alloc _) ⟨wr.heap.size, 0, none⟩ 1 1 [U8 y2] rfl rfl (cell_new _ _ _) ?c2 ?c3 ?c4 ?c5 ?_)
        case c2 => first | rfl | (intro u hu; simp at hu; subst hu; rfl)
        case c3 => first | omega | (unfold maxLen; omega)
        case c4 => omega
        case c5 => have := HBl.out.size; first | omega | (simp; omega)
        intro v1 w3 hown1 hg1 _
        have HB3 : Hid (Below w.heap.size w w3) := Lib.hid (own_below HBl.out HBl.out.size HO.out hg1)
        have HO3 : Hid (w3.ownsRow w.heap.size 5 1 v1 (done ++ [y2]).length ((done ++ [y2]).map U8)) := Lib.hid (by
          rw [List.map_append, List.length_append]; exact hown1)
        clear hown1 hg1 ht hsub hwP hqd hwq hyy g3
        go_wp2
        go_roundw
        case rel =>
          first
            | exact ⟨_, done ++ [y2], rfl, by rw [hd3.out]; go_num, by rw [hd3.out]; exact hd2, HQr, HE2, HO3, HB3⟩
            | (rw [HG.out] at HQr HE2; exact ⟨_, done ++ [y2], rfl, by rw [hd3.out]; go_num, by rw [hd3.out]; exact hd2, HQr, HE2, HO3, HB3⟩)
        case measure => simp [intOf]; omega
end Go.Proofs.YtggfaalodojjkaaGreatDoor
namespace Go.Proofs.YtggfaalodojjkaaGreatDoor
open Go.RowKit
set_option linter.unusedVariables false
set_option linter.unusedSimpArgs false
/-- a row of bytes, then other ones behind it: what append answers -/
theorem app_by (w : World) (B n m c : Nat) (A : Option Addr) (v : Value) (xs l : List Nat) (h1 : w.ownsRow B 5 1 v n (xs.map U8)) (h2 : Byt w A m c l) (hnm : n + m ≤ 200000) (hB : B ≤ w.heap.size) (h0 : 0 < m) :
    ∃ v' w', Hid (∀ ty, (Builtin.append_ #[27, 27] ty #[v, .slice A m c]).run Tryz.prog w = .ok v' w') ∧ w'.ownsRow B 5 1 v' (n + m) ((xs ++ l).map U8) ∧ w.grownBy w' v.ownBlock := by
  obtain ⟨i0, hi, hz0, hz1, hz2⟩ := info_parts info5
  obtain ⟨k1, kx, k2, k3, k4⟩ := h2
  subst k1
  obtain ⟨g2, q, rfl, hg, hc⟩ := k4 h0
  have hr : ∀ ty, ∃ v' w', (Builtin.append_ #[27, 27] ty #[v, .slice (some ⟨g2, q, none⟩) l.length c]).run Tryz.prog w = .ok v' w' ∧ w'.ownsRow B 5 1 v' (n + l.length) (xs.map U8 ++ l.map U8) ∧ w.grownBy w' v.ownBlock := fun ty => by
    obtain ⟨v', w', q1, q2, q3, _⟩ := run_append_own_at (P := Tryz.prog) w B 27 ty 5 i0 _ 1 1 Tryz.underlying27 hi hz0 hz1 hz2 rfl (by decide) v n _ h1 ⟨g2, q, none⟩ l.length c (l.map U8) (by simp) (fun j u hu => by
      have hj : j < l.length := by have := (List.getElem?_eq_some_iff.1 hu).1; simpa using this
      have e : (⟨g2, q, none⟩ : Addr).add j = ⟨g2, q + j, none⟩ := by cases j <;> simp [Addr.add]
      rw [e, hc j hj]
      rw [List.getElem?_map, List.getElem?_eq_getElem hj] at hu
      rw [List.getD_eq_getElem?_getD, List.getElem?_eq_getElem hj]
      exact hu) (fun u hu => by
      rw [List.mem_map] at hu
      obtain ⟨_, _, rfl⟩ := hu
      rfl) (by unfold maxLen; omega) (by omega) (by omega)
    exact ⟨v', w', q1, q2, q3⟩
  obtain ⟨v', w', q1, q2, q3⟩ := hr 0
  refine ⟨v', w', Lib.hid (fun ty => ?_), by rw [List.map_append]; exact q2, q3⟩
  rw [← q1]; rfl
end Go.Proofs.YtggfaalodojjkaaGreatDoor
namespace Go.Proofs.YtggfaalodojjkaaGreatDoor
open Go.RowKit
set_option linter.unusedVariables false
set_option linter.unusedSimpArgs false
/-- what the document's Encode answers -/
def EnR (L : List Nat) (w : World) (e : Ending) (w' : World) : Prop := ∃ A n c, e = .returned (.slice A n c) ∧ Byt w' A n c L ∧ n = L.length ∧ Below w.heap.size w w'
theorem u8cells {w : World} {g m c : Nat} {l : List Nat} (h : Byt w (some ⟨g, 0, none⟩) m c l) : ∀ j u, (l.map U8)[j]? = some u → w.cell? ((⟨g, 0, none⟩ : Addr).add j) = some u := by
  obtain ⟨h1, h2, h3, h4, h5⟩ := h
  intro j u hu
  have hj : j < l.length := by have := (List.getElem?_eq_some_iff.1 hu).1; simpa using this
  obtain ⟨b, off, e, _, hc⟩ := h5 (by omega)
  injection e with e
  injection e with e1 e2 e3
  subst e1 e2
  have hh := hc j (by omega)
  rw [addr_add, hh]
  rw [List.getElem?_map, List.getElem?_eq_getElem hj] at hu
  rw [List.getD_eq_getElem?_getD, List.getElem?_eq_getElem hj]
  exact hu
theorem byt_any {w : World} {B n : Nat} {v : Value} {l : List Nat} (h : w.ownsRow B 5 1 v n (l.map U8)) (hl : l.length = n) (hx : ∀ x ∈ l, x < 256) (hn : 0 < n) : ∃ A c, v = .slice A n c ∧ Byt w A n c l := by
  obtain ⟨g, cp, e, hb⟩ := byt_of_own h hn hx
  exact ⟨_, _, e, hb.1⟩
theorem headL_lt (cd : Int) : ∀ x ∈ headL cd, x < 256 := by
  intro x hx
  unfold headL at hx
  split at hx
  · simp only [List.mem_singleton] at hx; omega
  · rcases List.mem_cons.1 hx with e | e
    · omega
    · exact Leb.enc_lt _ _ x e
theorem len_two {a b : List Nat} {x y : Nat} (h1 : a.length = x) (h2 : b.length = y) : x + y = (a ++ b).length := by rw [List.length_append, h1, h2]
theorem headL_pos (cd : Int) : 0 < (headL cd).length := by
  unfold headL
  split <;> simp
/-- behind the head: the bytes of the code lie in a row of their own -/
def HdS (w V : World) (bx : Nat) (v : Value) (cd a b al : Int) (A : Option Addr) (n c : Nat) : Prop :=
  V.ownsRow w.heap.size 5 1 v (headL cd).length ((headL cd).map U8) ∧ Below w.heap.size w V ∧ Blk V bx 25 #[.int .i64 cd, .int .u64 a, .int .u64 b, .int .i64 al, .slice A n c]
set_option maxHeartbeats 4000000 in
set_option maxRecDepth 100000 in
theorem enc18_one (cd a b al : Int) (A : Option Addr) (n c : Nat) (w : World) (hcd : (0 ≤ cd ∧ cd < 252) ∨ (64512 ≤ cd ∧ cd < 100000)) (ha : 0 ≤ a ∧ a < 18446744073709551616) (hfo : formL cd = 2 ∨ formL cd = 4 ∨ formL cd = 6 ∨ formL cd = 7 ∨ formL cd = 9) :
    Calls Tryz.prog 18 #[.agg #[.int .i64 cd, .int .u64 a, .int .u64 b, .int .i64 al, .slice A n c]] w (EnR (headL cd ++ Leb.enc (Leb.szU a.toNat) a.toNat) w) := by
  obtain ⟨i0, hi, hz0, hz1, hz2⟩ := info_parts info5
  obtain ⟨W0, hW0⟩ : ∃ V, V = w.alloc (.cells #[.int .i64 cd, .int .u64 a, .int .u64 b, .int .i64 al, .slice A n c] 25) := ⟨_, rfl⟩
  obtain ⟨bx, hbx⟩ : ∃ x, x = w.heap.size := ⟨_, rfl⟩
  have hb0 : Below w.heap.size w W0 := by rw [hW0]; exact (Below.refl _ _).alloc (Nat.le_refl _) _
  have hX0 : Blk W0 bx 25 #[.int .i64 cd, .int .u64 a, .int .u64 b, .int .i64 al, .slice A n c] := by rw [hW0, hbx]; exact Blk.new w 25 _
  have HK : Hid (∀ V, Below W0.heap.size W0 V → V.cell? ⟨bx, 0, none⟩ = some (.int .i64 cd) ∧ V.cell? ⟨bx, 1, none⟩ = some (.int .u64 a)) := Lib.hid (fun V hV => by
    have h1 := hX0.below hV hX0.lt
    exact ⟨h1.cell 0, h1.cell 1⟩)
  have HB0 := Lib.hid hb0
  have HW0 := Lib.hid hW0
  have HBX := Lib.hid hbx
  obtain ⟨fo, hfl⟩ : ∃ z, z = formL cd := ⟨_, rfl⟩
  have HF := Lib.hid (fun W => RForm_any cd ⟨by omega, by omega⟩ W)
  rw [← hfl] at HF hfo
  have HP := Lib.hid (fun W => refPut_any a.toNat W (by omega))
  have hE : (Leb.enc (Leb.szU a.toNat) ((a.toNat : Nat) : Int)).length = Leb.szU a.toNat + 1 := enc_len _ _
  have hEx : ∀ x ∈ Leb.enc (Leb.szU a.toNat) ((a.toNat : Nat) : Int), x < 256 := Leb.enc_lt _ _
  have hsz := Leb.szU_le 9 a.toNat (by omega)
  generalize Leb.enc (Leb.szU a.toNat) ((a.toNat : Nat) : Int) = E at HP hE hEx ⊢
  generalize Leb.szU a.toNat = K0 at HP hE hsz
  rw [Int.toNat_of_nonneg ha.1] at HP
  obtain ⟨K, hK⟩ : ∃ K, K = K0 + 1 := ⟨_, rfl⟩
  rw [← hK] at HP hE
  have hK10 : K ≤ 10 := by omega
  have HEx := Lib.hid hEx
  clear hK hsz hEx
  have HHL := Lib.hid (headL_lt cd)
  have HHP := Lib.hid (headL_pos cd)
  unfold PutPost at HP
  unfold EnR
  obtain ⟨z0, z1⟩ := HK.out W0 (Below.refl _ _)
  have hss : Hid (W0.heap.size = bx + 1) := Lib.hid (by rw [hW0, hbx]; simp)
  clear hb0 hX0 hW0 hbx hfl
  rcases hcd with hlo | hhi
  · have hl : headL cd = [cd.toNat] := by unfold headL; rw [if_pos (by omega), show cd % 256 = cd by omega]
    have hw : IntKind.u8.wrap cd = cd := by simp only [IntKind.wrap, IntKind.bits, IntKind.signed]; simp; omega
    have hge : ¬ (64512 : Int) ≤ cd := by omega
    go_enter Tryz.func18, Tryz.ntmps18
    go_upto_region 1 with fail
    rw [← HBX.out]
    rw [← HW0.out]
    go_upto_region 2 with fail
    obtain ⟨V1, hV1⟩ : ∃ V, V = W0.alloc (.cells #[.int .u8 cd] 5) := ⟨_, rfl⟩
    obtain ⟨bg, hbg⟩ : ∃ z, z = W0.heap.size := ⟨_, rfl⟩
    have hb1 : Below W0.heap.size W0 V1 := by rw [hV1]; exact (Below.refl _ _).alloc (Nat.le_refl _) _
    have hG : V1.ownsRow W0.heap.size 5 1 (.slice (some ⟨bg, 0, none⟩) 1 1) 1 ((headL cd).map U8) := by
      rw [hl]
      refine ⟨by simp, .inr ⟨bg, 1, _, rfl, by omega, by rw [hV1, hbg]; exact heap_alloc_new W0 _, Nat.le_refl _, by unfold maxLen; omega, by simp, ?_⟩⟩
      simp [U8]
      omega
    rw [← hV1, ← hbg]
    have HO1 := Lib.hid hG
    have HB1 := Lib.hid hb1
    obtain ⟨y0, y1⟩ := HK.out V1 hb1
    have HLn : Hid ((headL cd).length = 1) := Lib.hid (by rw [hl]; rfl)
    have hs1 : bg ≤ V1.heap.size := by rw [hbg]; exact hb1.size
    have HBG := Lib.hid hbg
    clear hV1 hG hb1 z0 z1 hbg hl
    go_upto_region 5 with (go_at_call 37; refine (HF.out _).mono ?_; rintro e w1 ⟨rfl, rfl⟩)
    rcases hfo with rfl | rfl | rfl | rfl | rfl
    all_goals
      go_wp2_with (first
        | (go_at_call 42; (with_reducible refine (HP.out _).mono ?_); rintro e w2 ⟨g2, c2, rfl, hy2, hb2⟩; have HY2 := Lib.hid hy2; have HO2 := Lib.hid (own_kept HO1.out hb2); have HB2 := Lib.hid (HB1.out.trans (hb2.mono HB1.out.size)); clear hy2 hb2)
        | (at_builtin; refine wpList_append_own _ rfl (.tmp 37) (.tmp 40) 27 rfl W0.heap.size 5 i0 _ 1 1 Tryz.underlying27 hi hz0 hz1 hz2 rfl (by decide) _ 1 _ rfl HO2.out ⟨g2, 0, none⟩ K c2 (E.map U8) rfl (by simp [hE]) (u8cells HY2.out) ?d1 ?d2 ?d3 ?d4 ?_))
      case d1 => intro u hu; rw [List.mem_map] at hu; obtain ⟨_, _, rfl⟩ := hu; rfl
      case d2 => unfold maxLen; omega
      case d3 => have := HY2.out.2.2.1; omega
      case d4 => exact HB2.out.size
      intro v3 w3 ho3 hg3 _
      rw [← List.map_append] at ho3
      have HB3 : Hid (Below w.heap.size w w3) := Lib.hid ((HB0.out.trans ((own_below0 HB2.out HO2.out hg3 HB2.out.size).mono HB0.out.size)))
      obtain ⟨A3, c3, e3, hy3⟩ := byt_any ho3 (by rw [List.length_append, HLn.out, hE]) (fun x hx => by
        rcases List.mem_append.1 hx with q | q
        · exact HHL.out x q
        · exact HEx.out x q) (by omega)
      subst e3
      have HY3 := Lib.hid hy3
      have HLL := Lib.hid (len_two HLn.out hE)
      clear ho3 hg3 hy3
      go_wp2
      go_ret
      exact ⟨_, _, _, rfl, HY3.out, HLL.out, HB3.out⟩
  · have hge : (64512 : Int) ≤ cd := hhi.1
    have HP2 := Lib.hid (fun W => refPut_any (cd - 64512).toNat W (by omega))
    unfold PutPost at HP2
    have hl : headL cd = [252] ++ Leb.enc (Leb.szU (cd - 64512).toNat) (((cd - 64512).toNat : Nat) : Int) := by unfold headL; rw [if_neg (by omega)]; rfl
    have hE2 : (Leb.enc (Leb.szU (cd - 64512).toNat) (((cd - 64512).toNat : Nat) : Int)).length = Leb.szU (cd - 64512).toNat + 1 := enc_len _ _
    have hsz2 := Leb.szU_le 9 (cd - 64512).toNat (by omega)
    generalize Leb.enc (Leb.szU (cd - 64512).toNat) (((cd - 64512).toNat : Nat) : Int) = E2 at HP2 hE2 hl
    generalize Leb.szU (cd - 64512).toNat = K1 at HP2 hE2 hsz2
    rw [Int.toNat_of_nonneg (by omega)] at HP2
    obtain ⟨K2, hK2⟩ : ∃ K, K = K1 + 1 := ⟨_, rfl⟩
    rw [← hK2] at HP2 hE2
    obtain ⟨nh, hnh⟩ : ∃ z, z = 1 + K2 := ⟨_, rfl⟩
    have hnb : nh ≤ 20 ∧ K2 ≤ 10 ∧ 1 ≤ nh := by omega
    obtain ⟨hnh20, hk210, hnh1⟩ := hnb
    have HLn : Hid ((headL cd).length = nh) := Lib.hid (by rw [hl, List.length_append, hE2, hnh]; rfl)
    have HNH := Lib.hid hnh
    have HHd := Lib.hid hl
    have HE2 := Lib.hid hE2
    clear hl hK2 hnh hsz2 hE2
    go_enter Tryz.func18, Tryz.ntmps18
    go_upto_region 1 with fail
    rw [← HBX.out]
    rw [← HW0.out]
    go_upto_region 2 with fail
    generalize hV1 : W0.alloc _ = V1
    have hb1 : Below W0.heap.size W0 V1 := by rw [← hV1]; exact (Below.refl _ _).alloc (Nat.le_refl _) _
    obtain ⟨y0, y1⟩ := HK.out V1 hb1
    have HB1' := Lib.hid hb1
    clear hV1 hb1 z0 z1
    have y9 : (V1.alloc (.cells #[.int .u8 252] 5)).cell? ⟨bx, 0, none⟩ = some (.int .i64 cd) := (HK.out _ (HB1'.out.alloc HB1'.out.size _)).1
    go_upto_region 4 with (first
      | (go_at_call 42; (with_reducible refine (HP2.out _).mono ?_); rintro e w2 ⟨g2, c2, rfl, hy2, hb2⟩
         have HYh := Lib.hid hy2
         have HOh : Hid (w2.ownsRow W0.heap.size 5 1 (.slice (some ⟨V1.heap.size, 0, none⟩) 1 1) 1 ([252].map U8)) := Lib.hid (own_kept ⟨by simp, .inr ⟨V1.heap.size, 1, _, rfl, HB1'.out.size, heap_alloc_new V1 _, Nat.le_refl _, by unfold maxLen; omega, by simp, by simp [U8]⟩⟩ hb2)
         have HBh := Lib.hid ((HB1'.out.alloc HB1'.out.size _).trans (hb2.mono (HB1'.out.alloc HB1'.out.size _).size))
         clear hy2 hb2)
      | (at_builtin; refine wpList_append_own _ rfl (.tmp 13) (.tmp 18) 27 rfl W0.heap.size 5 i0 _ 1 1 Tryz.underlying27 hi hz0 hz1 hz2 rfl (by decide) _ 1 _ rfl HOh.out ⟨g2, 0, none⟩ K2 c2 (E2.map U8) rfl (by simp [HE2.out]) (u8cells HYh.out) ?d1 ?d2 ?d3 ?d4 ?_))
    case d1 => intro u hu; rw [List.mem_map] at hu; obtain ⟨_, _, rfl⟩ := hu; rfl
    case d2 => unfold maxLen; omega
    case d3 => have := HYh.out.2.2.1; omega
    case d4 => exact HBh.out.size
    intro v5 w5 ho5 hg5 _
    replace ho5 : w5.ownsRow W0.heap.size 5 1 v5 nh ((headL cd).map U8) := by rw [HHd.out, List.map_append, HNH.out]; exact ho5
    have HB1 : Hid (Below W0.heap.size W0 w5) := Lib.hid (own_below0 HBh.out HOh.out hg5 HBh.out.size)
    obtain ⟨g5, cp5, e5, _, _⟩ := own_some ho5 (by omega)
    subst e5
    have HO1 := Lib.hid ho5
    obtain ⟨x0, x1⟩ := HK.out w5 HB1.out
    clear ho5 hg5 y0 y1 y9
    go_upto_region 4 with fail
    go_upto_region 5 with (go_at_call 37; refine (HF.out _).mono ?_; rintro e w1 ⟨rfl, rfl⟩)
    rcases hfo with rfl | rfl | rfl | rfl | rfl
    all_goals
      go_wp2_with (first
        | (go_at_call 42; (with_reducible refine (HP.out _).mono ?_); rintro e w2 ⟨g2, c2, rfl, hy2, hb2⟩; have HY2 := Lib.hid hy2; have HO2 := Lib.hid (own_kept HO1.out hb2); have HB2 := Lib.hid (HB1.out.trans (hb2.mono HB1.out.size)); clear hy2 hb2)
        | (at_builtin; refine wpList_append_own _ rfl (.tmp 37) (.tmp 40) 27 rfl W0.heap.size 5 i0 _ 1 1 Tryz.underlying27 hi hz0 hz1 hz2 rfl (by decide) _ nh _ rfl HO2.out ⟨g2, 0, none⟩ K c2 (E.map U8) rfl (by simp [hE]) (u8cells HY2.out) ?d1 ?d2 ?d3 ?d4 ?_))
      case d1 => intro u hu; rw [List.mem_map] at hu; obtain ⟨_, _, rfl⟩ := hu; rfl
      case d2 => unfold maxLen; omega
      case d3 => have := HY2.out.2.2.1; omega
      case d4 => exact HB2.out.size
      intro v3 w3 ho3 hg3 _
      rw [← List.map_append] at ho3
      have HB3 : Hid (Below w.heap.size w w3) := Lib.hid ((HB0.out.trans ((own_below0 HB2.out HO2.out hg3 HB2.out.size).mono HB0.out.size)))
      obtain ⟨A3, c3, e3, hy3⟩ := byt_any ho3 (by rw [List.length_append, HLn.out, hE]) (fun x hx => by
        rcases List.mem_append.1 hx with q | q
        · exact HHL.out x q
        · exact HEx.out x q) (by omega)
      subst e3
      have HY3 := Lib.hid hy3
      have HLL := Lib.hid (len_two HLn.out hE)
      clear ho3 hg3 hy3
      go_wp2
      go_ret
      exact ⟨_, _, _, rfl, HY3.out, HLL.out, HB3.out⟩
end Go.Proofs.YtggfaalodojjkaaGreatDoor
namespace Go.Proofs.YtggfaalodojjkaaGreatDoor
open Go.RowKit
set_option linter.unusedVariables false
set_option linter.unusedSimpArgs false
def PutNew (N : Nat) (L : List Nat) (w : World) (e : Ending) (w' : World) : Prop :=
  ∃ g cp, e = .returned (.slice (some ⟨g, 0, none⟩) N cp) ∧ Byt w' (some ⟨g, 0, none⟩) N cp L ∧ Below w.heap.size w w' ∧ w.heap.size ≤ g
set_option maxHeartbeats 1000000 in
set_option maxRecDepth 100000 in
theorem refPut_new (n0 : Nat) (w : World) (hn : n0 < 2 ^ 64) :
    Calls Tryz.prog 42 #[.int .u64 n0] w (PutNew (Leb.szU n0 + 1) (Leb.enc (Leb.szU n0) n0) w) := by
  obtain ⟨i0, hi, hz0, hz1, hz2⟩ := info_parts info5
  have h9 := Leb.szU_le 9 n0 (by omega)
  obtain ⟨E, hE⟩ : ∃ E, E = Leb.enc (Leb.szU n0) n0 := ⟨_, rfl⟩
  have hEl : Hid (E.length = Leb.szU n0 + 1) := Lib.hid (by rw [hE, Leb.enc_len])
  have hEx : Hid (∀ x ∈ E, x < 256) := Lib.hid (by rw [hE]; exact Leb.enc_lt _ _)
  rw [← hE]
  obtain ⟨K, hK⟩ : ∃ K, K = Leb.szU n0 + 1 := ⟨_, rfl⟩
  rw [← hK] at hEl ⊢
  have hK10 : K ≤ 10 := by omega
  have H0 : Hid (E = [] ++ Leb.enc (Leb.szU n0) (n0 : Nat)) := Lib.hid hE
  have HN0 := Lib.hid hn
  clear hE hK hn h9
  go_enter Tryz.func42, Tryz.ntmps42
  go_wp2
  go_loopw [0, 3] (fun v0 v3 wr => ∃ (m : Nat) (done : List Nat), v0 = .int .u64 m ∧ done.length < 10 ∧ Hid (m < 2 ^ 64) ∧ Hid (E = done ++ Leb.enc (Leb.szU m) m) ∧ Hid (wr.ownsRow w.heap.size 5 1 v3 done.length (done.map U8)) ∧ Hid (Below w.heap.size w wr)) (fun v0 _ _ => (intOf v0).toNat)
  case atStart => exact ⟨n0, [], rfl, by simp, HN0, H0, Lib.hid (World.ownsRow_nil _ _ _ _), Lib.hid (Below.refl _ _)⟩
  case round =>
    obtain ⟨m, done, rfl, hd10, HM, HE, HO, HBl⟩ := hrel
    by_cases hlt : m < 128
    · have HE2 : Hid (E = done ++ [m]) := Lib.hid (by
        rw [HE.out, Leb.szU_lo m hlt, Leb.enc]
        congr 2
        omega)
      have HKl : Hid (K = done.length + 1) := Lib.hid (by rw [← hEl.out, HE2.out]; simp)
      go_wp2_with (at_builtin; refine wpList_append_own _ rfl (.tmp 15) (.tmp 18) 27 rfl w.heap.size 5 i0 _ 1 1 Tryz.underlying27 hi hz0 hz1 hz2 rfl (by decide) _ done.length _ rfl (HO.out.alloc _) ⟨wr.heap.size, 0, none⟩ 1 1 [U8 m] rfl rfl (cell_new _ _ _) ?c2 ?c3 ?c4 ?c5 ?_)
      case c2 => intro u hu; simp at hu; subst hu; rfl
      case c3 => unfold maxLen; omega
      case c4 => omega
      case c5 => have := HBl.out.size; simp; omega
      intro v1 w3 hown1 hg1 _
      have HB3 : Hid (Below w.heap.size w w3) := Lib.hid (own_below HBl.out HBl.out.size HO.out hg1)
      have HF : Hid (∃ g cp, v1 = .slice (some ⟨g, 0, none⟩) (done.length + 1) cp ∧ Byt w3 (some ⟨g, 0, none⟩) (done.length + 1) cp E ∧ w.heap.size ≤ g) := Lib.hid (byt_of_own (by rw [HE2.out, List.map_append]; exact hown1) (by omega) hEx.out)
      clear hown1 hg1
      go_wp2
      go_ret
      obtain ⟨g, cp, hv, hby, hge⟩ := HF.out
      rw [HKl.out]
      exact ⟨g, cp, by rw [hv]; rfl, hby, HB3.out, hge⟩
    · obtain ⟨y, hy, hye⟩ := add128 m (by omega)
      have HE2 : Hid (E = (done ++ [y]) ++ Leb.enc (Leb.szU (m / 128)) (m / 128 : Nat)) := Lib.hid (by
        rw [HE.out, Leb.szU_hi m hlt, Leb.enc, List.append_assoc, hy]; rfl)
      have hd2 : done.length + 1 < 10 := by
        have := congrArg List.length HE2.out
        rw [hEl.out, List.length_append, List.length_append, Leb.enc_len, List.length_singleton] at this
        omega
      have hwr : IntKind.u64.wrap ((m : Int) / 128) = (m : Int) / 128 := by have := HM.out; rw [IntKind.wrap_u64]; omega
      clear hy
      go_wp2_with (at_builtin; refine wpList_append_own _ rfl (.tmp 6) (.tmp 11) 27 rfl w.heap.size 5 i0 _ 1 1 Tryz.underlying27 hi hz0 hz1 hz2 rfl (by decide) _ done.length _ rfl (HO.out.alloc _) ⟨wr.heap.size, 0, none⟩ 1 1 [U8 y] rfl rfl (cell_new _ _ _) ?c2 ?c3 ?c4 ?c5 ?_)
      case c2 => intro u hu; simp at hu; subst hu; rfl
      case c3 => unfold maxLen; omega
      case c4 => omega
      case c5 => have := HBl.out.size; simp; omega
      intro v1 w3 hown1 hg1 _
      have HB3 : Hid (Below w.heap.size w w3) := Lib.hid (own_below HBl.out HBl.out.size HO.out hg1)
      have HO3 : Hid (w3.ownsRow w.heap.size 5 1 v1 (done ++ [y]).length ((done ++ [y]).map U8)) := Lib.hid (by
        rw [List.map_append, List.length_append]; exact hown1)
      have hd3 : (done ++ [y]).length < 10 := by rw [List.length_append, List.length_singleton]; omega
      have HMS : Hid (((m / 128 : Nat) : Int).toNat < (m : Int).toNat) := Lib.hid (by omega)
      clear hown1 hg1 hye
      go_wp2
      go_roundw
      case rel => exact ⟨m / 128, done ++ [y], by go_num, hd3, Lib.hid (by have := HM.out; omega), HE2, HO3, HB3⟩
      case measure => simp [intOf]; omega

theorem byt_grown {w w' : World} {g m c r : Nat} {l : List Nat} (h : Byt w (some ⟨g, 0, none⟩) m c l) (hg : w.grownBy w' (some r)) (hne : r ≠ g) : Byt w' (some ⟨g, 0, none⟩) m c l := by
  obtain ⟨h1, h2, h3, h4, h5⟩ := h
  refine ⟨h1, h2, h3, h4, fun h0 => ?_⟩
  obtain ⟨b, off, e, hb, hc⟩ := h5 h0
  have hf := Fr.grownV hg
  refine ⟨b, off, e, Nat.lt_of_lt_of_le hb hf.size, fun i hi => ?_⟩
  rw [← hc i hi]
  injection e with e
  injection e with e1 e2
  have := hf.block b hb (fun q => by injection q with q; omega)
  simp only [World.cell?, this]
theorem cat_lt {a b : List Nat} (h1 : ∀ x ∈ a, x < 256) (h2 : ∀ x ∈ b, x < 256) : ∀ x ∈ a ++ b, x < 256 := by
  intro x hx
  rcases List.mem_append.1 hx with q | q
  · exact h1 x q
  · exact h2 x q
end Go.Proofs.YtggfaalodojjkaaGreatDoor
