/-
  SpaceGrows: the walk.
-/
import Derived.Test.YtlnffcledpccjaaUg
import Derived.BigQuiet
import Derived.OwnWalk
import Derived.WalkKit
import Derived.ProofKit
import Derived.OpenShut
import Derived.ShutString
import Derived.ChangeOld
import Derived.Below
namespace Go.Proofs.Ytlnffcledpccjaa
set_option linter.unusedVariables false
set_option linter.unusedSimpArgs false
open Go.ChangeShapes Go.WideShapes Go.ChangeAt
open Go.RowKit
theorem rep0 (k j : Nat) : (List.replicate k 0).getD j 0 = 0 := by rw [List.getD_eq_getElem?_getD, List.getElem?_replicate]; split <;> rfl
theorem mbs_off {num sz place n P k : Nat} {l : List Nat} (hs : 0 < sz) (h : place + n ≤ P) : mbs (wrm (fun _ => zs sz) num sz place l n) num sz P k = List.replicate k 0 := by
  apply List.ext_getElem
  · simp [mbs]
  · intro i h1 h2
    simp only [mbs, List.getElem_map, List.getElem_range, mby, List.getElem_replicate]
    have e := Nat.div_add_mod (P + i) sz
    have e2 : (P + i) / sz * sz + (P + i) % sz = P + i := by rw [Nat.mul_comm]; exact e
    have hm : (P + i) % sz < sz := Nat.mod_lt _ hs
    rw [List.getD_eq_getElem?_getD, wrm_get (x := (num, (P + i) / sz)) rfl hm]
    simp only [e2]
    rw [if_neg (by omega)]
    simp [zs, List.getD_eq_getElem?_getD, hm]
set_option maxHeartbeats 4000000 in
set_option maxRecDepth 100000 in
theorem spaceGrows_walk (a0 : Int) (a1 : Option Addr) (len1 cap1 : Nat) (l : List Nat) (a2 a3 a4 : Int) (w : World) (h0 : (Lit.int .u8 a0).wf = true) (hb1 : Byt w a1 len1 cap1 l) (h2 : (Lit.int .u16 a2).wf = true) (h3 : (Lit.int .u16 a3).wf = true) (h4 : (Lit.int .u8 a4).wf = true) :
    Calls Try.prog 10 #[.int .u8 a0, .slice a1 len1 cap1, .int .u16 a2, .int .u16 a3, .int .u8 a4] w fun e w' => e = .returned (.bool true) ∧ Below w.heap.size w w' := by
  have ha := bounds_u8 h0
  have b2 := bounds_u16 h2
  have b3 := bounds_u16 h3
  have b4 := bounds_u8 h4
  have hlc1 : len1 ≤ cap1 := hb1.2.2.1
  have hcap1 : cap1 ≤ 9223372036854775807 := hb1.2.2.2.1
  have HB := Lib.hid hb1
  clear hb1 h0 h2 h3 h4
  obtain ⟨fr, rfl⟩ := Int.eq_ofNat_of_zero_le (show 0 ≤ a2 by omega)
  obtain ⟨to, rfl⟩ := Int.eq_ofNat_of_zero_le (show 0 ≤ a3 by omega)
  by_cases hbig : 400 < len1
  · go_enter Try.func10, Try.ntmps10
    go_wp2_with (go_at_call 22; refine (awake8_any _).mono ?_; rintro e w1 ⟨rfl, hb1⟩; have HB1 := Lib.hid hb1; clear hb1)
    go_ret
    exact ⟨rfl, HB1.out⟩
  · have hl1 : len1 ≤ 400 := by omega
    obtain ⟨f, hf⟩ : ∃ f : Int, f = a0 % 5 := ⟨_, rfl⟩
    obtain ⟨n, hn⟩ : ∃ n : Nat, (n : Int) = 1 + f := ⟨(1 + f).toNat, by omega⟩
    have HPn := Lib.hid (fun w => Pager_n f n (by omega) w)
    rw [hf] at HPn
    clear hbig hn hf
    go_enter Try.func10, Try.ntmps10
    go_wp2_with fail
    refine (awake8_any _).mono ?_
    rintro e w1 ⟨rfl, hb1⟩
    have HW1 := Lib.hid hb1
    clear hb1
    go_wp2_with fail
    refine (HPn.out w1).mono ?_
    rintro e w4 ⟨A, bb, rm, gm, rfl, hS⟩
    have HS4 := Lib.hid hS
    clear hS
    go_wp2_with fail
    refine (SpNew_ok A.p 1 2 40 false w4 (by omega) (by omega) (by omega)).mono ?_
    rintro e w5 ⟨rfl, rfl⟩
    have HS5 := Lib.hid (HS4.out.alloc (.cells (mmC A.p 1 2 40 40 false) 117))
    have HM5 := Lib.hid (Blk.new w4 117 (mmC A.p 1 2 40 40 false))
    generalize (w4.alloc (.cells (mmC A.p 1 2 40 40 false) 117)) = w5 at HS5 HM5 ⊢
    generalize w4.heap.size = M at HS5 HM5 ⊢
    go_wp2_with fail
    have hBx : ∀ g, a1.map (·.block) = some g → 0 < len1 → ((False ∨ g = M) ∨ g < w1.heap.size) := fun g e h0 => by
      obtain ⟨g', off, e', hlt, _⟩ := HB.out.2.2.2.2 h0
      rw [e'] at e
      simp at e
      have := HW1.out.size
      exact .inr (by omega)
    have hby5 : Byt w5 a1 len1 cap1 l := HB.out.kept (HW1.out.trans (HS5.out.bel.mono HW1.out.size))
    refine (Store_ok HS5.out M 1 2 40 40 fr 0 len1 cap1 false a1 l HM5.out (.inr rfl) hby5 hBx (by omega) (by omega) (by omega) (by omega) (by omega) (by omega) (by omega) (by omega)).mono ?_
    rintro e w6 h6
    unfold StP at h6
    obtain ⟨rfl, hS6, hK6⟩ := h6
    have HM6 : Hid (Blk w6 M 117 (mmC A.p 1 2 40 40 false)) := Lib.hid (((KX.fr hK6).block M HM5.out.lt (fun h => h.2 (.inr rfl))).trans HM5.out)
    have HS6 := Lib.hid hS6
    clear hS6 hK6 hBx hby5
    obtain ⟨m, hm⟩ : ∃ m : Nat, (m : Int) = 1 + a4 % 30 := ⟨(1 + a4 % 30).toNat, by omega⟩
    have hm1 : 1 ≤ m := by omega
    have hm30 : m ≤ 30 := by omega
    have HG : Hid (Calls Try.prog 34 #[.pointer (some ⟨M, 0, none⟩), .int .u64 (1 + a4 % 30)] w6 fun e w' => e = .returned (.tuple #[.int .i64 2, .bool true]) ∧ Fr (fun q => q = M) w6 w' ∧ Blk w' M 117 (mmC A.p 1 (2 + m) 40 40 false)) := Lib.hid (by rw [← hm]; exact Grow_ok M A.p 1 2 40 40 m false HM6.out (by omega) (by omega) (by omega))
    go_wp2_with fail
    refine HG.out.mono ?_
    rintro e w7 ⟨rfl, hf7, hm7⟩
    have HS7 := Lib.hid (HS6.out.ext hf7 (fun q e => .inl (.inr e)) (fun q e => .inl e))
    have HM7 := Lib.hid hm7
    clear hf7 hm7
    go_wp2_with fail
    refine (Load_ok HS7.out M 1 (2 + m) 40 40 fr 0 len1 false HM7.out (.inr rfl) (by omega) (by omega) (by omega) (by omega) (by omega) (by omega) (by omega) (by omega)).mono ?_
    rintro e w8 hP
    unfold LdP at hP
    obtain ⟨g, rfl, _, hy, hS8, hK8⟩ := hP
    have HM8 : Hid (Blk w8 M 117 (mmC A.p 1 (2 + m) 40 40 false)) := Lib.hid (((KX.fr hK8).block M HM7.out.lt (fun h => h.2 (.inr rfl))).trans HM7.out)
    have HY := Lib.hid hy
    have HS8 := Lib.hid hS8
    clear hy hS8 hK8
    go_wp2_with fail
    obtain ⟨q, hq⟩ : ∃ q : Nat, q = to * m := ⟨_, rfl⟩
    have hqb : q ≤ 65535 * 30 := by rw [hq]; exact Nat.mul_le_mul (by omega) hm30
    have e1 : ((to : Int) * (1 + a4 % 30)) = (q : Int) := by rw [← hm, hq, Int.natCast_mul]
    have e2 : (1 + a4 % 30) * 65536 - 100 = ((m * 65536 - 100 : Nat) : Int) := by omega
    have w1' : IntKind.u64.wrap (q : Int) = q := by rw [IntKind.wrap_u64]; omega
    have hmd : q % (m * 65536 - 100) < m * 65536 - 100 := Nat.mod_lt _ (by omega)
    obtain ⟨P, hP⟩ : ∃ P : Nat, P = 131072 + q % (m * 65536 - 100) := ⟨_, rfl⟩
    have e3 : IntKind.u64.wrap (131072 + (IntKind.u64.wrap ((to : Int) * (1 + a4 % 30))).tmod ((1 + a4 % 30) * 65536 - 100)) = (P : Int) := by
      rw [e1, e2, w1', ← Int.ofNat_tmod, IntKind.wrap_u64, hP]
      omega
    rw [e3]
    have hPb : P + 100 ≤ (2 + m) * 65536 := by omega
    have hPl : 131072 ≤ P := by omega
    clear e1 e2 e3 w1' hmd hP hq hqb
    refine (Load_ok HS8.out M 1 (2 + m) 40 40 P 0 100 false HM8.out (.inl (.inr rfl)) (by omega) (by omega) (by omega) (by omega) (by omega) (by omega) (by omega) (by omega)).mono ?_
    rintro e w9 hQ
    unfold LdP at hQ
    obtain ⟨g2, rfl, _, hy2, hS9, hK9⟩ := hQ
    rw [mbs_off (by decide) (by omega)] at hy2
    have HPg : Hid (Calls Try.prog 37 #[.pointer (some ⟨M, 0, none⟩)] w9 fun e w' => e = .returned (.int .i64 (2 + (m : Int))) ∧ w9 = w') := Lib.hid (by rw [show (2 : Int) + m = ((2 + m : Nat) : Int) from by omega]; exact Pages_ok M A.p 1 (2 + m) 40 40 false (((KX.fr hK9).block M HM8.out.lt (fun h => h.2 (.inl (.inr rfl)))).trans HM8.out))
    have hll : l.length = len1 := HB.out.1
    have hz : ∀ x : Nat × Nat, ((fun _ => zs 64 : Nat × Nat → List Nat) x).length = 64 := fun x => by show (zs 64).length = 64; decide
    have e6 : mbs (wrm (fun _ => zs 64) 1 64 (fr + 0) l len1) 1 64 (fr + 0) len1 = l := mbs_wrm hz (by decide) hll
    have hy9 := hK9.byt HY.out (.inl (.inr rfl))
    rw [e6] at hy9
    have HCV := Lib.hid (conv_byt hy9)
    have HCW := Lib.hid (conv_byt (HB.out.kept (HW1.out.trans (hS9.bel.mono HW1.out.size))))
    have HSE : Hid (((str l).toList == (str l).toList) = true) := Lib.hid (by simp)
    have HE := Lib.hid (HW1.out.trans (hS9.bel.mono HW1.out.size))
    have HZ : Hid (∀ j, j < 100 → w9.cell? ⟨g2, j, none⟩ = some (.int .u8 0)) := Lib.hid (fun j hj => by
      obtain ⟨b, off, e, _, hc⟩ := hy2.2.2.2.2 (by decide)
      cases e
      have := hc j hj
      rw [rep0] at this
      simpa using this)
    clear hy2 hS9 hK9 hll hz e6 hy9
    go_wp2_with fail
    go_loop [25] (fun v25 => ∃ i : Nat, i ≤ 100 ∧ v25 = .int .i64 i) (fun v25 => 100 - (intOf v25).toNat)
    case atStart => exact ⟨0, by omega, rfl⟩
    case round =>
      obtain ⟨i, hi, rfl⟩ := hrel
      by_cases hlt : i < 100
      · have d0 := HZ.out i hlt
        go_wp2_with fail
        go_round
        case rel => exact ⟨i + 1, by omega, by go_num⟩
        case measure => simp [intOf]; omega
      · have hi2 : i = 100 := by omega
        subst hi2
        have hcv := HCV.out
        have hcw := HCW.out
        have hse := HSE.out
        go_wp2_with (go_at_call 37; refine HPg.out.mono ?_; rintro e w10 ⟨rfl, rfl⟩)
        go_ret
        exact ⟨rfl, HE.out⟩

end Go.Proofs.Ytlnffcledpccjaa
