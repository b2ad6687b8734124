/-
  Called with any two numbers, grommetlaw01.LebApart returns true; no condition.
-/
import Derived.Test.YtchdcimmbmphnaaLn
import Derived.WalkKit
import Derived.ProofKit
import Derived.OpenShut
import Derived.ShutString
import Derived.ChangeOld
import Derived.Below
namespace Go.Proofs.Ytchdcimmbmphnaa
open Go.ChangeShapes Go.WideShapes Go.ChangeAt Go.RowKit
open Go.ChangeMaps (open_string shut_string)
set_option linter.unusedVariables false      -- a lebApart_walk need not use every 'w<i>' (that an integer argument fits its kind)


theorem pre_eq : ∀ (j k : Nat) (n m : Int), j ≤ k → (Leb.enc k n).take (j + 1) = Leb.enc j m → j = k ∧ Leb.enc k n = Leb.enc j m := by
  intro j
  induction j with
  | zero =>
    intro k n m hle h
    cases k with
    | zero => exact ⟨rfl, by rw [← h, List.take_of_length_le (by rw [Leb.enc_len]; omega)]⟩
    | succ k =>
      rw [Leb.enc, Leb.enc, List.take_succ_cons] at h
      have := (List.cons.inj h).1
      omega
  | succ j ih =>
    intro k n m hle h
    cases k with
    | zero => omega
    | succ k =>
      rw [Leb.enc, Leb.enc, List.take_succ_cons] at h
      have h1 := (List.cons.inj h).1
      obtain ⟨e, h2⟩ := ih k (n / 128) (m / 128) (by omega) (List.cons.inj h).2
      exact ⟨by omega, by rw [Leb.enc, Leb.enc, h1, h2]⟩
theorem bg_of {j k : Nat} {n m : Int} (h : Leb.enc k n ≠ Leb.enc j m) : bg (Leb.enc k n) (Leb.enc j m) = false := by
  unfold bg
  rw [Leb.enc_len, Leb.enc_len, decide_eq_false_iff_not]
  rintro ⟨h1, h2⟩
  exact h (pre_eq j k n m (by omega) h2).2
theorem encU_ne {n m : Nat} (hn : n < 2 ^ 64) (hm : m < 2 ^ 64) (h : n ≠ m) : Leb.enc (Leb.szU n) n ≠ Leb.enc (Leb.szU m) m := by
  intro e
  have e1 := Leb.val_enc (Leb.szU n) n (Leb.szU_lt 9 n (by omega))
  have e2 := Leb.val_enc (Leb.szU m) m (Leb.szU_lt 9 m (by omega))
  rw [e, e2] at e1
  exact h e1.symm
theorem encS_ne {n m : Int} (h1 : -9223372036854775808 ≤ n) (h2 : n < 9223372036854775808) (h3 : -9223372036854775808 ≤ m) (h4 : m < 9223372036854775808) (h : n ≠ m) : Leb.enc (Leb.szS n) n ≠ Leb.enc (Leb.szS m) m := by
  intro e
  have a := Leb.szS_in 9 n (by omega) (by omega)
  have b := Leb.szS_in 9 m (by omega) (by omega)
  have e1 := Leb.svl_enc (Leb.szS n) n a.1 a.2
  have e2 := Leb.svl_enc (Leb.szS m) m b.1 b.2
  rw [e, e2] at e1
  exact h e1.symm
set_option maxHeartbeats 1000000 in
set_option maxRecDepth 100000 in
theorem lebApart_walk (a0 : Int) (a1 : Int) (w0 : (Lit.int .u64 a0).wf = true) (w1 : (Lit.int .u64 a1).wf = true) (w : World) :
    Calls Try.prog 7 #[.int .u64 a0, .int .u64 a1] w fun e w' => e = .returned (.bool true) ∧ Below w.heap.size w w' := by
  have hb0 := bounds_u64 w0
  have hb1 := bounds_u64 w1
  obtain ⟨n, rfl⟩ := Int.eq_ofNat_of_zero_le hb0.1
  obtain ⟨m, rfl⟩ := Int.eq_ofNat_of_zero_le hb1.1
  have hn64 : Hid (n < 2 ^ 64) := Lib.hid (by omega)
  have hm64 : Hid (m < 2 ^ 64) := Lib.hid (by omega)
  have hns : Hid (-9223372036854775808 ≤ wrap64 (n : Int) ∧ wrap64 (n : Int) < 9223372036854775808) := Lib.hid (by unfold wrap64; omega)
  have hms : Hid (-9223372036854775808 ≤ wrap64 (m : Int) ∧ wrap64 (m : Int) < 9223372036854775808) := Lib.hid (by unfold wrap64; omega)
  have hne : Hid (n ≠ m → wrap64 (n : Int) ≠ wrap64 (m : Int)) := Lib.hid (by unfold wrap64; omega)
  clear w0 w1 hb0 hb1
  by_cases h : n = m
  · subst h
    go_enter Try.func7, Try.ntmps7
    go_wp2_with fail
    refine (put_nil n _ hn64.out).mono ?_
    rintro e w1 ⟨g1, c1, rfl, hy1, hb1⟩
    have HY1 := Lib.hid hy1
    have HB1 := Lib.hid hb1
    clear hy1 hb1
    go_wp2_with fail
    refine (put_nil n _ hn64.out).mono ?_
    rintro e w2 ⟨g2, c2, rfl, hy2, hb2⟩
    have HY2 := Lib.hid hy2
    have HB2 := Lib.hid hb2
    clear hy2 hb2
    go_wp2_with fail
    refine (putS_nil _ _ hns.out.1 hns.out.2).mono ?_
    rintro e w3 ⟨g3, c3, rfl, hy3, hb3⟩
    have HY3 := Lib.hid hy3
    have HB3 := Lib.hid hb3
    clear hy3 hb3
    go_wp2_with fail
    refine (putS_nil _ _ hns.out.1 hns.out.2).mono ?_
    rintro e w4 ⟨g4, c4, rfl, hy4, hb4⟩
    have HY4 := Lib.hid hy4
    have HB4 := Lib.hid hb4
    have f1 := conv_byt (((HY1.out.kept HB2.out).kept HB3.out).kept HB4.out)
    have f2 := conv_byt ((HY2.out.kept HB3.out).kept HB4.out)
    have f3 := conv_byt (HY3.out.kept HB4.out)
    have f4 := conv_byt HY4.out
    clear hy4 hb4
    go_wp2_with fail
    refine (awake1_any _).mono ?_
    rintro e w5 ⟨rfl, hb5⟩
    have HB5 := Lib.hid hb5
    clear hb5
    go_wp2_with fail
    go_ret
    exact ⟨rfl, (((HB1.out.trans (HB2.out.mono HB1.out.size)).trans (HB3.out.mono (Nat.le_trans HB1.out.size HB2.out.size))).trans (HB4.out.mono (Nat.le_trans (Nat.le_trans HB1.out.size HB2.out.size) HB3.out.size))).trans (HB5.out.mono (Nat.le_trans (Nat.le_trans (Nat.le_trans HB1.out.size HB2.out.size) HB3.out.size) HB4.out.size))⟩
  · have hnm : ((n : Int) == (m : Int)) = false := by rw [dec_beq]; simp [h]
    have e1 := Lib.hid (bg_of (encU_ne hn64.out hm64.out h))
    have e2 := Lib.hid (bg_of (encU_ne hm64.out hn64.out (Ne.symm h)))
    have e3 := Lib.hid (bg_of (encS_ne hns.out.1 hns.out.2 hms.out.1 hms.out.2 (hne.out h)))
    have e4 := Lib.hid (bg_of (encS_ne hms.out.1 hms.out.2 hns.out.1 hns.out.2 (Ne.symm (hne.out h))))
    clear h
    go_enter Try.func7, Try.ntmps7
    go_wp2_with fail
    refine (put_nil n _ hn64.out).mono ?_
    rintro e w1 ⟨g1, c1, rfl, hy1, hb1⟩
    have HY1 := Lib.hid hy1
    have HB1 := Lib.hid hb1
    clear hy1 hb1
    go_wp2_with fail
    refine (put_nil m _ hm64.out).mono ?_
    rintro e w2 ⟨g2, c2, rfl, hy2, hb2⟩
    have HY2 := Lib.hid hy2
    have HB2 := Lib.hid hb2
    clear hy2 hb2
    go_wp2_with fail
    refine (putS_nil _ _ hns.out.1 hns.out.2).mono ?_
    rintro e w3 ⟨g3, c3, rfl, hy3, hb3⟩
    have HY3 := Lib.hid hy3
    have HB3 := Lib.hid hb3
    clear hy3 hb3
    go_wp2_with fail
    refine (putS_nil _ _ hms.out.1 hms.out.2).mono ?_
    rintro e w4 ⟨g4, c4, rfl, hy4, hb4⟩
    have HY4 := Lib.hid hy4
    have HB4 := Lib.hid hb4
    have F1 := Lib.hid (((HY1.out.kept HB2.out).kept HB3.out).kept HB4.out)
    have F2 := Lib.hid ((HY2.out.kept HB3.out).kept HB4.out)
    have F3 := Lib.hid (HY3.out.kept HB4.out)
    clear hy4 hb4
    go_wp2_with fail
    refine (begins_any _ _ _ _ _ _ _ _ _ F1.out F2.out).mono ?_
    rw [e1.out]
    rintro e w5 ⟨rfl, k1, rfl⟩
    go_wp2_with fail
    refine (begins_any _ _ _ _ _ _ _ _ _ (F2.out.drewN _) (F1.out.drewN _)).mono ?_
    rw [e2.out]
    rintro e w5 ⟨rfl, k2, rfl⟩
    go_wp2_with fail
    refine (begins_any _ _ _ _ _ _ _ _ _ (F3.out.drewN _) (HY4.out.drewN _)).mono ?_
    rw [e3.out]
    rintro e w5 ⟨rfl, k3, rfl⟩
    go_wp2_with fail
    refine (begins_any _ _ _ _ _ _ _ _ _ (HY4.out.drewN _) (F3.out.drewN _)).mono ?_
    rw [e4.out]
    rintro e w5 ⟨rfl, k4, rfl⟩
    go_wp2_with fail
    refine (awake1_any _).mono ?_
    rintro e w6 ⟨rfl, hb5⟩
    have HB5 := Lib.hid hb5
    clear hb5
    go_wp2_with fail
    go_ret
    have q1 := (((HB1.out.trans (HB2.out.mono HB1.out.size)).trans (HB3.out.mono (Nat.le_trans HB1.out.size HB2.out.size))).trans (HB4.out.mono (Nat.le_trans (Nat.le_trans HB1.out.size HB2.out.size) HB3.out.size)))
    exact ⟨rfl, (below_drewN q1 _).trans (HB5.out.mono (Nat.le_trans (Nat.le_trans (Nat.le_trans HB1.out.size HB2.out.size) HB3.out.size) HB4.out.size))⟩

set_option maxRecDepth 100000 in
theorem lebApart_lifted (os : Os) (started : os.Started) (H : Type) (enc : TypeId × Value → H) :
    ReturnsInHanded {} Try.checked os 7 .any (Rows.lebApartSpec.pre6 enc Try.prog Try.f7 Rows.lebApartRow.domain false) (Rows.lebApartSpec.post enc Try.prog Try.f7 false true false false) := by
  refine returnsInHanded_of_change (C := Try.checked) Try.own started (by kernel_rfl) Try.func7
    (ChangeSpec.witness6 (enc := enc) (C := Try.checked) false ⟨#[], #[.int .u64 0, .int .u64 0], []⟩ 8 (by kernel_rfl) (by kernel_rfl) (by kernel_rfl) (by kernel_rfl)) ?_
  intro W base args ds gs before hval0 hW hcnd _
  have hval : ∀ (j : Nat) t v, Try.f7.params[j]? = some t → args[j]? = some v → Value.okWide Try.prog W .any base t v := hval0
  have hW' := hW
  obtain ⟨p, q, hA0, hV, rfl, hfz, hnd⟩ := hW
  have hA : DataW.TrodAll enc Try.prog W 0 (fun _ => true) true Try.f7.params.toList args.toList ds p := hA0
  rw [Try.params7] at hA hval
  obtain ⟨v0, vs0, d0, ds0, p0, q0, hargs, rfl, rfl, h0, r0⟩ := trodAll_cons hA
  obtain ⟨v1, vs1, d1, ds1, p1, q1, rfl, rfl, rfl, h1, r1⟩ := trodAll_cons r0
  obtain ⟨rfl, rfl, rfl⟩ := trodAll_nil r1
  obtain rfl : args = #[v0, v1] := by cases args; simp_all
  obtain ⟨rfl, rfl⟩ := trodVars_none hV
  obtain ⟨a0, rfl, rfl, rfl, w0⟩ := open_int Try.underlying24 (hval 0 24 v0 rfl rfl) h0
  obtain ⟨a1, rfl, rfl, rfl, w1⟩ := open_int Try.underlying24 (hval 1 24 v1 rfl rfl) h1
  clear hA0 hval0
  simp only [List.append_nil] at hW'
  refine (lebApart_walk a0 a1 w0 w1 W).mono fun e W' ⟨he, hg⟩ => ?_
  subst he
  exact ⟨_, rfl, _, _, _, [], [], [], hW', (trodAll_cons_mk (shut_bool Try.underlying4 _) trodAll_mk0), (trodAll_cons_mk (shut_int Try.underlying24 w0) (trodAll_cons_mk (shut_int Try.underlying24 w1) trodAll_mk0)), rfl, hg.frame _, fun h => by cases h⟩

theorem lebApart_over : Rows.lebApartRow.holds Try.pinned (OpenSpec.ofChange Rows.lebApartSpec) :=
  OpenClaim.holds_of_wide 7 Try.f7 rfl rfl rfl rfl rfl rfl rfl ⟨rfl, rfl, rfl, rfl, rfl⟩ rfl rfl rfl rfl rfl (by kernel_rfl) Try.func7 (by kernel_rfl)
    (of_decide_eq_true (by kernel_rfl)) (by unfold Func.isWrapper; first | (rw [if_pos (by decide +kernel)]; kernel_rfl) | (rw [if_neg (by decide +kernel)]; exact ⟨rfl, rfl⟩))
    (fun os started H enc _ => lebApart_lifted os started H enc)

theorem lebApart_proved : Rows.LebApartSaid :=
  lebApart_over
#print axioms lebApart_proved
end Go.Proofs.Ytchdcimmbmphnaa
