/-
  CodeDeep: 64 blocks in one another are closed, told as deep as they are; one more is an error at its place; more than 4096 bytes are no body (the tables of the program, tied to its text, lie as they are told; no other condition).
-/
import Derived.Test.YtggfaalodojjkaaDoorDc
import Derived.Test.YtggfaalodojjkaaDoorCards
import Derived.Deep.RegionHeld3
import Derived.WalkKit
import Derived.ProofKit
import Derived.OpenShut
import Derived.ShutString
import Derived.ChangeOld
import Derived.Below
import Derived.ChangeMaps5
namespace Go.Proofs.YtggfaalodojjkaaDoor
open Go.ChangeShapes Go.WideShapes Go.ChangeAt Go.RowKit
open Go.ChangeMaps (open_string shut_string)
set_option linter.unusedVariables false
set_option linter.unusedSimpArgs false

set_option linter.unusedVariables false
set_option linter.unusedSimpArgs false
theorem deep_facts {N : Nat} {c : Int} (h : deepB N c = true) : (N ≤ 64 → ∃ n, thN (deepL N c) n0 = (0, n) ∧ n.sp.length = N ∧ n.dp = N ∧ ∃ s, n.sp[0]? = some s ∧ s.2.2 = 2 * N - 1) ∧ (64 < N → ∃ n, thN (deepL N c) n0 = (15, n) ∧ n.pos = 64) := by
  unfold deepB at h
  obtain ⟨⟨r, n⟩, ht⟩ : ∃ x, x = thN (deepL N c) n0 := ⟨_, rfl⟩
  rw [← ht] at h ⊢
  dsimp only at h
  refine ⟨fun hN => ?_, fun hN => ?_⟩
  · rw [if_pos hN] at h
    simp only [Bool.and_eq_true, beq_iff_eq] at h
    obtain ⟨⟨⟨h1, h2⟩, h3⟩, h4⟩ := h
    subst h1
    obtain ⟨s, hs, he⟩ := Option.map_eq_some_iff.1 h4
    exact ⟨n, rfl, h2, h3, s, hs, he⟩
  · rw [if_neg (by omega)] at h
    simp only [Bool.and_eq_true, beq_iff_eq] at h
    obtain ⟨h1, h2⟩ := h
    subst h1
    exact ⟨n, rfl, h2⟩
theorem Spans_deep {N : Nat} {c : Int} (hN : N ≤ 64) (h1 : 0 < N) (h : deepB N c = true) (A : Option Addr) (cap : Nat) (w : World) (hI : Ins w A cap (deepL N c)) :
    Calls Tryd.prog 10 #[.slice A (N + (N + 1)) cap] w fun e w' => Below w.heap.size w w' ∧ ∃ g c4, e = .returned (.tuple #[.slice (some ⟨g, 0, none⟩) N c4, .int .i64 0, .int .i64 0]) ∧ g < w'.heap.size ∧ N ≤ c4 ∧ c4 ≤ maxLen ∧ w'.cell? ⟨g, 2, none⟩ = some (.int .i64 (2 * (N : Int) - 1)) := by
  obtain ⟨n, ht, hsp, hdp, s, hs, he⟩ := (deep_facts h).1 hN
  have hh := Spans_ok A cap (deepL N c) (by rw [deepL_len]; omega) w hI
  rw [deepL_len] at hh
  refine hh.mono ?_
  rintro e w' ⟨hb, ⟨n', h2, A4, c4, he2, ho⟩ | ⟨n', r', h0, h2, _⟩⟩
  · rw [ht] at h2
    cases h2
    rw [hsp] at he2 ho
    obtain ⟨g, cp, e4, h5, h6⟩ := own_some ho h1
    cases e4
    refine ⟨hb, g, c4, he2, ?_, h5, h6, ?_⟩
    · obtain ⟨cs, hcs⟩ := own_ty ho rfl
      exact hcs.lt
    · rw [ho.cellAt 2 (by omega)]
      cases hsl : n.sp with
      | nil => rw [hsl] at hs; simp at hs
      | cons a l =>
        rw [hsl] at hs
        simp only [List.getElem?_cons_zero, Option.some.injEq] at hs
        subst hs
        rw [spC_cons]
        show some (Value.int .i64 (a.2.2 : Nat)) = _
        rw [he]
        congr 2
        omega
  · rw [ht] at h2
    cases h2
    exact absurd rfl h0
theorem Spans_deep2 {N : Nat} {c : Int} (hN : 64 < N) (h2 : N ≤ 70) (h : deepB N c = true) (A : Option Addr) (cap : Nat) (w : World) (hI : Ins w A cap (deepL N c)) :
    Calls Tryd.prog 10 #[.slice A (N + (N + 1)) cap] w fun e w' => Below w.heap.size w w' ∧ e = .returned (.tuple #[.slice none 0 0, .int .i64 64, .int .i64 15]) := by
  obtain ⟨n, ht, hp⟩ := (deep_facts h).2 hN
  have hh := Spans_ok A cap (deepL N c) (by rw [deepL_len]; omega) w hI
  rw [deepL_len] at hh
  refine hh.mono ?_
  rintro e w' ⟨hb, ⟨n', h2, A4, c4, he2, ho⟩ | ⟨n', r', h0, h2, he⟩⟩
  · rw [ht] at h2
    cases h2
  · rw [ht] at h2
    cases h2
    rw [hp] at he
    exact ⟨hb, he⟩
theorem Deep_deep {N : Nat} {c : Int} (hN : N ≤ 64) (h : deepB N c = true) (A : Option Addr) (cap : Nat) (w : World) (hI : Ins w A cap (deepL N c)) :
    Calls Tryd.prog 11 #[.slice A (N + (N + 1)) cap] w fun e w' => Below w.heap.size w w' ∧ e = .returned (.int .i64 (N : Nat)) := by
  obtain ⟨n, ht, hsp, hdp, s, hs, he⟩ := (deep_facts h).1 hN
  have hh := Deep_ok A cap (deepL N c) (by rw [deepL_len]; omega) w hI
  rw [deepL_len] at hh
  unfold DpP at hh
  rw [ht] at hh
  dsimp only at hh
  rw [if_pos rfl, hdp] at hh
  exact hh
theorem Deep_deep2 {N : Nat} {c : Int} (hN : 64 < N) (h2 : N ≤ 70) (h : deepB N c = true) (A : Option Addr) (cap : Nat) (w : World) (hI : Ins w A cap (deepL N c)) :
    Calls Tryd.prog 11 #[.slice A (N + (N + 1)) cap] w fun e w' => Below w.heap.size w w' ∧ e = .returned (.int .i64 0) := by
  obtain ⟨n, ht, hp⟩ := (deep_facts h).2 hN
  have hh := Deep_ok A cap (deepL N c) (by rw [deepL_len]; omega) w hI
  rw [deepL_len] at hh
  unfold DpP at hh
  rw [ht] at hh
  dsimp only at hh
  rw [if_neg (by decide)] at hh
  exact hh
theorem Ins.below {w w' : World} {A : Option Addr} {cap : Nat} {L : List Int} (h : Ins w A cap L) (hb : Below w.heap.size w w') : Ins w' A cap L := by
  obtain ⟨h1, h2, h3⟩ := h
  refine ⟨h1, h2, fun h0 => ?_⟩
  obtain ⟨g, o, e, hg, hi⟩ := h3 h0
  refine ⟨g, o, e, Nat.lt_of_lt_of_le hg hb.size, fun i hi' => ?_⟩
  obtain ⟨a, b, al, B, ln, cp, c0, c1, c2, c3, c4⟩ := hi i hi'
  exact ⟨a, b, al, B, ln, cp, (hb.cell (p := ⟨g, o + i * 5, none⟩) hg).trans c0, (hb.cell (p := ⟨g, o + i * 5 + 1, none⟩) hg).trans c1, (hb.cell (p := ⟨g, o + i * 5 + 2, none⟩) hg).trans c2, (hb.cell (p := ⟨g, o + i * 5 + 3, none⟩) hg).trans c3, (hb.cell (p := ⟨g, o + i * 5 + 4, none⟩) hg).trans c4⟩
theorem info5 : (Tryd.prog.info? 5).map (fun i => (i.zero, i.size, i.bytes)) = some (some (.int .u8 0), 1, 1) := by kernel_rfl
theorem step_facts {w w1 w6 : World} {B : Nat} {v : Value} (hb : Below B w w1) (hB : B ≤ w1.heap.size) {n : Nat} {xs : List Value} (ho : w1.ownsRow B 42 5 v n xs) (hg : w1.grownBy w6 v.ownBlock) : Below B w w6 :=
  (Fr.grownV hg).below hb hB (fun q hq => (ho.lt q hq).1)
set_option maxHeartbeats 8000000 in
set_option maxRecDepth 100000 in
theorem codeDeep_walk (a0 : Int) (a1 : Bool) (w : World) (h0 : (Lit.int .u8 a0).wf = true) (_ : True) :
    Calls Tryd.prog 4 #[.int .u8 a0, .bool a1] w fun e w' => e = .returned (.bool true) ∧ Below w.heap.size w w' := by
  obtain ⟨i0, hi, hz0, hz1, hz2⟩ := info_parts info42
  have h1 := bounds_u8 h0
  obtain ⟨m, rfl⟩ := Int.eq_ofNat_of_zero_le h1.1
  have hm : m < 256 := by omega
  clear h0 h1
  have e1 : Int.tmod (m : Int) 16 = ((m % 16 : Nat) : Int) := rfl
  have hd : m % 16 < 16 := Nat.mod_lt _ (by decide)
  have hdp := deep_one (m % 16) hd a1
  obtain ⟨c, hc⟩ : ∃ c : Int, c = if a1 then 3 else 2 := ⟨_, rfl⟩
  rw [← hc] at hdp
  generalize m % 16 = d at e1 hd hdp
  have HDP := Lib.hid hdp
  clear hdp
  go_enter Tryd.func4, Tryd.ntmps4
  obtain ⟨N, hN⟩ : ∃ N, N = 55 + d := ⟨_, rfl⟩
  have hN1 : 55 ≤ N := by omega
  have hN2 : N ≤ 70 := by omega
  have HN := Lib.hid hN
  go_upto_region 3 with (go_at_call 5; (with_reducible refine (awake_any _).mono ?_); rintro e w1 ⟨rfl, hb⟩
                         have HB1 := Lib.hid hb
                         clear hb)
  go_cut [5, 18, 19, 20, 21] (fun s5 s18 s19 s20 s21 wx => s5 = .int .i64 (N : Nat) ∧ wx = w1)
  case first =>
    go_wp2_with fail
    go_meet
    exact ⟨by congr 1; omega, rfl⟩
  obtain ⟨rfl, rfl⟩ := hcut
  clear hN e1 hd
  go_wp2
  go_loopw [6, 7] (fun v6 v7 wr => ∃ k : Nat, k ≤ N ∧ v7 = .int .i64 k ∧ Hid (wr.ownsRow w.heap.size 42 5 v6 k (rwC (dpL k c))) ∧ Hid (Below w.heap.size w wr)) (fun _ v7 _ => N - (intOf v7).toNat)
  case atStart => exact ⟨0, Nat.zero_le _, rfl, Lib.hid (World.ownsRow_nil _ _ _ _), HB1⟩
  case round =>
    obtain ⟨k, hk, rfl, HO, HB⟩ := hrel
    by_cases hlt : k < N
    · cases a1 with
      | true =>
        have hc3 : c = 3 := hc
        subst hc3
        clear hc
        go_wp2_with (at_builtin
                     refine wpList_append_own _ rfl (.tmp 30) (.tmp 32) 25 rfl w.heap.size 42 i0 _ 5 56 Tryd.underlying25 hi hz0 hz1 hz2 rfl (by decide) _ k (rwC (dpL k 3)) rfl (own_kept HO.out (((Below.refl _ _).alloc (Nat.le_refl _) _).alloc (by simp) _)) ⟨wr.heap.size + 1, 0, none⟩ 1 1 [.int .i64 3, .int .u64 64, .int .u64 0, .int .i64 0, .slice none 0 0] rfl rfl ?a1 (by intro u hu; simp at hu; rcases hu with rfl | rfl | rfl | rfl | rfl <;> rfl) ?a2 ?a3 ?a4 ?_
                     case a1 =>
                       have h := src1 (wr.alloc (.cells #[.int .i64 3, .int .u64 64, .int .u64 0, .int .i64 0, .slice none 0 0] 42)) [.int .i64 3, .int .u64 64, .int .u64 0, .int .i64 0, .slice none 0 0] 42
                       rw [World.size_alloc] at h
                       exact h
                     case a2 => unfold maxLen; omega
                     case a3 => omega
                     case a4 => have := HB.out.size; simp; omega
                     intro v6 w6 hown6 hg6 _
                     have HB6 : Hid (Below w.heap.size w w6) := Lib.hid (step_facts ((HB.out.alloc HB.out.size _).alloc (by have := HB.out.size; simp; omega) _) (by have := HB.out.size; simp; omega) (own_kept HO.out (((Below.refl _ _).alloc (Nat.le_refl _) _).alloc (by simp) _)) hg6)
                     have HO6 : Hid (w6.ownsRow w.heap.size 42 5 v6 (k + 1) (rwC (dpL (k + 1) 3))) := Lib.hid (by rw [dpL_succ, rwC_app]; exact hown6)
                     clear hown6 hg6)
        go_roundw
        case rel => exact ⟨k + 1, by omega, by go_num, HO6, HB6⟩
        case measure => simp [intOf]; omega
      | false =>
        have hc3 : c = 2 := hc
        subst hc3
        clear hc
        go_wp2_with (at_builtin
                     refine wpList_append_own _ rfl (.tmp 30) (.tmp 32) 25 rfl w.heap.size 42 i0 _ 5 56 Tryd.underlying25 hi hz0 hz1 hz2 rfl (by decide) _ k (rwC (dpL k 2)) rfl (own_kept HO.out (((Below.refl _ _).alloc (Nat.le_refl _) _).alloc (by simp) _)) ⟨wr.heap.size + 1, 0, none⟩ 1 1 [.int .i64 2, .int .u64 64, .int .u64 0, .int .i64 0, .slice none 0 0] rfl rfl ?a1 (by intro u hu; simp at hu; rcases hu with rfl | rfl | rfl | rfl | rfl <;> rfl) ?a2 ?a3 ?a4 ?_
                     case a1 =>
                       have h := src1 (wr.alloc (.cells #[.int .i64 2, .int .u64 64, .int .u64 0, .int .i64 0, .slice none 0 0] 42)) [.int .i64 2, .int .u64 64, .int .u64 0, .int .i64 0, .slice none 0 0] 42
                       rw [World.size_alloc] at h
                       exact h
                     case a2 => unfold maxLen; omega
                     case a3 => omega
                     case a4 => have := HB.out.size; simp; omega
                     intro v6 w6 hown6 hg6 _
                     have HB6 : Hid (Below w.heap.size w w6) := Lib.hid (step_facts ((HB.out.alloc HB.out.size _).alloc (by have := HB.out.size; simp; omega) _) (by have := HB.out.size; simp; omega) (own_kept HO.out (((Below.refl _ _).alloc (Nat.le_refl _) _).alloc (by simp) _)) hg6)
                     have HO6 : Hid (w6.ownsRow w.heap.size 42 5 v6 (k + 1) (rwC (dpL (k + 1) 2))) := Lib.hid (by rw [dpL_succ, rwC_app]; exact hown6)
                     clear hown6 hg6)
        go_roundw
        case rel => exact ⟨k + 1, by omega, by go_num, HO6, HB6⟩
        case measure => simp [intOf]; omega
    · have e0 : N = k := by omega
      subst e0
      clear hc hlt hk
      go_wp2
      go_loopw [6, 9] (fun v6 v9 wr => ∃ k : Nat, k ≤ N + 1 ∧ v9 = .int .i64 k ∧ Hid (wr.ownsRow w.heap.size 42 5 v6 (N + k) (rwC (dpL2 (N) c k))) ∧ Hid (Below w.heap.size w wr)) (fun _ v9 _ => N + 1 - (intOf v9).toNat)
      case atStart => exact ⟨0, Nat.zero_le _, rfl, (by have h := HO.out; unfold dpL at h; unfold dpL2; rw [List.replicate_zero, List.append_nil]; exact Lib.hid h), HB⟩
      case round =>
        clear HO HB
        obtain ⟨k, hk, rfl, HO, HB⟩ := hrel
        by_cases hlt : k < N + 1
        · have HA := Lib.hid (own_kept HO.out ((Below.refl wr.heap.size wr).alloc (Nat.le_refl _) (.cells #[.int .i64 11, .int .u64 0, .int .u64 0, .int .i64 0, .slice none 0 0] 42)))
          have HS := Lib.hid (src1 wr [.int .i64 11, .int .u64 0, .int .u64 0, .int .i64 0, .slice none 0 0] 42)
          have HBA := Lib.hid (HB.out.alloc HB.out.size (.cells #[.int .i64 11, .int .u64 0, .int .u64 0, .int .i64 0, .slice none 0 0] 42))
          have hq : N + k ≤ 200 := by omega
          generalize hz : N + k = z at HA hq
          go_wp2_with (at_builtin
                       refine wpList_append_own _ rfl (.tmp 39) (.tmp 41) 25 rfl w.heap.size 42 i0 _ 5 56 Tryd.underlying25 hi hz0 hz1 hz2 rfl (by decide) _ z _ rfl HA.out ⟨wr.heap.size, 0, none⟩ 1 1 [.int .i64 11, .int .u64 0, .int .u64 0, .int .i64 0, .slice none 0 0] rfl rfl HS.out (by intro u hu; simp at hu; rcases hu with rfl | rfl | rfl | rfl | rfl <;> rfl) ?a2 ?a3 ?a4 ?_
                       case a2 => unfold maxLen; omega
                       case a3 => omega
                       case a4 => have := HBA.out.size; exact this
                       intro v6 w6 hown6 hg6 _
                       have HB6 : Hid (Below w.heap.size w w6) := Lib.hid (step_facts HBA.out HBA.out.size HA.out hg6)
                       have HO6 : Hid (w6.ownsRow w.heap.size 42 5 v6 (N + (k + 1)) (rwC (dpL2 N c (k + 1)))) := Lib.hid (by rw [dpL2_succ, rwC_app, ← Nat.add_assoc, hz]; exact hown6)
                       clear hown6 hg6)
          go_roundw
          case rel => exact ⟨k + 1, by omega, by go_num, HO6, HB6⟩
          case measure => simp [intOf]; omega
        · have e0 : k = N + 1 := by omega
          subst e0
          clear hlt hk
          obtain ⟨A, cap, rfl⟩ := own_slice HO.out
          have HI : Hid (Ins wr A cap (deepL N c)) := Lib.hid (by
            have h := (rw_ins HO.out).2
            rw [dpL2_codes] at h
            exact h)
          have HE : Hid (deepB N c = true) := Lib.hid (by rw [HN.out]; exact HDP.out)
          clear HO HDP
          obtain ⟨j0, hj, hy0, hy1, hy2⟩ := info_parts info5
          by_cases h64 : N ≤ 64
          · have HSP := Lib.hid (Spans_deep h64 (by omega) HE.out A cap wr HI.out)
            have HDD := Lib.hid (fun W hW => Deep_deep h64 HE.out A cap W hW)
            go_wp2_with (first
              | (go_at_call 10; (with_reducible refine HSP.out.mono ?_); rintro e w4 ⟨hb, g, c4, rfl, hg4, hc4, hc5, x2⟩
                 unfold maxLen at hc5
                 have HB4 : Hid (Below w.heap.size w w4) := Lib.hid (HB.out.trans (hb.mono HB.out.size))
                 have HI4 := Lib.hid (HI.out.below hb)
                 clear hb)
              | (at_make; refine wpList_make_lc _ rfl (.const (.int .i64 4097)) (.const (.int .i64 4097)) 22 rfl 5 j0 _ Tryd.underlying22 hj hy0 hy1 .i64 .i64 _ _ 4097 4097 rfl rfl rfl rfl (Nat.le_refl _) (by rw [hy2]; omega) (by unfold maxLen; omega) ?_; intro w5 hg5 hb5; have HB5 := Lib.hid hb5; clear hb5 hg5)
              | (go_at_call 6; (with_reducible refine (Read_long _ _ _ (by omega) _).mono ?_); rintro e w6 ⟨rfl, hb6⟩
                 have HB6 : Hid (Below w4.heap.size w4 w6) := Lib.hid (HB5.out.trans (hb6.mono HB5.out.size))
                 clear hb6)
              | (go_at_call 11; (with_reducible refine (HDD.out _ (HI4.out.below (HB6.out.alloc HB6.out.size _))).mono ?_); rintro e w7 ⟨hb7, rfl⟩
                 have HB7 : Hid (Below w4.heap.size w4 w7) := Lib.hid ((HB6.out.alloc HB6.out.size _).trans (hb7.mono (by have := HB6.out.size; simp; omega)))
                 have x27 := (HB7.out.cell (p := ⟨g, 2, none⟩) hg4).trans x2
                 clear hb7))
            go_ret
            exact ⟨rfl, HB4.out.trans (HB7.out.mono HB4.out.size)⟩
          · have HSP := Lib.hid (Spans_deep2 (by omega) hN2 HE.out A cap wr HI.out)
            have HDD := Lib.hid (fun W hW => Deep_deep2 (by omega) hN2 HE.out A cap W hW)
            go_wp2_with (first
              | (go_at_call 10; (with_reducible refine HSP.out.mono ?_); rintro e w4 ⟨hb, rfl⟩
                 have HB4 : Hid (Below w.heap.size w w4) := Lib.hid (HB.out.trans (hb.mono HB.out.size))
                 have HI4 := Lib.hid (HI.out.below hb)
                 clear hb)
              | (at_make; refine wpList_make_lc _ rfl (.const (.int .i64 4097)) (.const (.int .i64 4097)) 22 rfl 5 j0 _ Tryd.underlying22 hj hy0 hy1 .i64 .i64 _ _ 4097 4097 rfl rfl rfl rfl (Nat.le_refl _) (by rw [hy2]; omega) (by unfold maxLen; omega) ?_; intro w5 hg5 hb5; have HB5 := Lib.hid hb5; clear hb5 hg5)
              | (go_at_call 6; (with_reducible refine (Read_long _ _ _ (by omega) _).mono ?_); rintro e w6 ⟨rfl, hb6⟩
                 have HB6 : Hid (Below w4.heap.size w4 w6) := Lib.hid (HB5.out.trans (hb6.mono HB5.out.size))
                 clear hb6)
              | (go_at_call 11; (with_reducible refine (HDD.out _ (HI4.out.below (HB6.out.alloc HB6.out.size _))).mono ?_); rintro e w7 ⟨hb7, rfl⟩
                 have HB7 : Hid (Below w4.heap.size w4 w7) := Lib.hid ((HB6.out.alloc HB6.out.size _).trans (hb7.mono (by have := HB6.out.size; simp; omega)))
                 skip
                 clear hb7))
            go_ret
            exact ⟨rfl, HB4.out.trans (HB7.out.mono HB4.out.size)⟩

set_option maxRecDepth 100000 in
theorem codeDeep_lifted (os : Os) (started : os.Started) (H : Type) (enc : TypeId × Value → H) :
    ReturnsInHanded {} Tryd.checked os 4 .any (fun w args => (Rows.codeDeepSpec.pre enc Tryd.prog Tryd.f4 [] false w args ∧ laidMetH Tryd.prog laidW w) ∧ sizedMet enc Tryd.prog Tryd.f4 (OpenSpec.ofChange Rows.codeDeepSpec) false w args) (Rows.codeDeepSpec.post enc Tryd.prog Tryd.f4 false true false false) := by
  refine returnsInHanded_of_change_and_sh (C := Tryd.checked) (X := fun w _ => laidMetH Tryd.prog laidW w) (fun _ _ _ hh h => h.of_heap hh) Tryd.own started (by kernel_rfl) Tryd.func4
    (ChangeSpec.witness_shaped (enc := enc) (C := Tryd.checked) (os := os) (X := fun w _ => laidMetH Tryd.prog laidW w) false (World.laidAll Tryd.prog os laidW) #[.int .u8 0, .bool false] 8 (World.laidAll_os _ _ _) (World.shaped_of_ZipB (by kernel_rfl) (by kernel_rfl)) (by kernel_rfl) (by kernel_rfl) (by kernel_rfl) (laidW_met os _)) ?_
  intro W base args ds gs before hval0 hW _ _ hL hsh _
  have hval : ∀ (j : Nat) t v, Tryd.f4.params[j]? = some t → args[j]? = some v → Value.okWide Tryd.prog W .any base t v := hval0
  have hW' := hW
  obtain ⟨p, q, hA0, hV, rfl, hfz, hnd⟩ := hW
  have hA : DataW.TrodAll enc Tryd.prog W 0 (fun _ => true) true Tryd.f4.params.toList args.toList ds p := hA0
  rw [Tryd.params4] at hA hval
  obtain ⟨v0, vs0, d0, ds0, p0, q0, hargs, rfl, rfl, h0, r0⟩ := trodAll_cons hA
  obtain ⟨v1, vs1, d1, ds1, p1, q1, rfl, rfl, rfl, h1, r1⟩ := trodAll_cons r0
  obtain ⟨rfl, rfl, rfl⟩ := trodAll_nil r1
  obtain rfl : args = #[v0, v1] := by cases args; simp_all
  obtain ⟨rfl, rfl⟩ := trodVars_none hV
  obtain ⟨a0, rfl, rfl, rfl, w0⟩ := open_int Tryd.underlying5 (hval 0 5 v0 rfl rfl) h0
  obtain ⟨a1, rfl, rfl, rfl⟩ := open_bool Tryd.underlying4 (hval 1 4 v1 rfl rfl) h1
  clear hA0 hval0
  refine (codeDeep_walk a0 a1 W w0 (trivial)).mono fun e W' ⟨he, hg⟩ => ?_
  subst he
  exact ⟨_, rfl, _, _, _, [], _, [], hW', trodAll_mk1 (shut_bool Tryd.underlying4 _), (trodAll_cons_mk (shut_int Tryd.underlying5 w0) (trodAll_cons_mk (shut_bool Tryd.underlying4 _) trodAll_mk0)), rfl, hg.frame _, fun h => by cases h⟩

theorem codeDeep_over : Rows.codeDeepRow.holds Tryd.pinned (OpenSpec.ofChange Rows.codeDeepSpec) :=
  OpenClaim.holds_of_wide 4 Tryd.f4 rfl rfl rfl rfl rfl rfl rfl ⟨rfl, rfl, rfl, rfl, rfl⟩ rfl rfl rfl rfl rfl (by kernel_rfl) Tryd.func4 (by kernel_rfl)
    (of_decide_eq_true (by kernel_rfl)) (by unfold Func.isWrapper; first | (rw [if_pos (by decide +kernel)]; kernel_rfl) | (rw [if_neg (by decide +kernel)]; exact ⟨rfl, rfl⟩))
    (fun os started H enc _ => codeDeep_lifted os started H enc)

theorem codeDeep_proved : Rows.CodeDeepCardSaid :=
  Claim7.holds_tied_plain_at .later [] [.listed, .data, .data] true (true, "719af4cbd99248e0dc7d77f4f2ff38d2ee351b37f5d9caccd1ee4677979a3e69") false
    codeDeep_over (fun _ h => by cases h) (by kernel_rfl) (fun _ h => by cases h) codeDeep_row_tie rfl ⟨rfl, rfl⟩ (by kernel_rfl) rfl
    (fun f fn hf hfn => by
      obtain rfl : f = 4 := Option.some.inj ((show Tryd.prog.funcNamed "grommet/grommetlaw12.CodeDeep" = some 4 by kernel_rfl).symm.trans hf) |>.symm
      obtain rfl : fn = Tryd.f4 := (Option.some.inj (Tryd.func4.symm.trans hfn)).symm
      exact ⟨by kernel_rfl, fun j t ht => by
        rw [Tryd.params4] at ht
        have hm : t ∈ [5, 4] := by simpa using Array.mem_of_getElem? ht
        have hall : ([5, 4].all fun u => !Tryd.prog.wantsStandIn u) = true := by kernel_rfl
        exact (show Tryd.prog.wantsStandIn t = false by simpa using List.all_eq_true.1 hall t hm)⟩)
    (by kernel_rfl)
#print axioms codeDeep_proved
end Go.Proofs.YtggfaalodojjkaaDoor
