/-
  Called with any two numbers, grommetlaw04.ArenaNone returns true; no condition.
-/
import Derived.Test.YtmphpdonpaefpaaAf
import Derived.WalkKit
import Derived.ProofKit
import Derived.OpenShut
import Derived.ShutString
import Derived.ChangeOld
import Derived.Below
namespace Go.Proofs.Ytmphpdonpaefpaa
open Go.ChangeShapes Go.WideShapes Go.ChangeAt Go.RowKit
open Go.ChangeMaps (open_string shut_string)
set_option linter.unusedVariables false      -- a arenaNone_walk need not use every 'w<i>' (that an integer argument fits its kind)


set_option maxHeartbeats 1000000 in
set_option maxRecDepth 100000 in
theorem class_any (n : Int) (w : World) (h : n ≤ 4194304) :
    Calls Try.prog 29 #[.int .i64 n] w fun e w' => e = .returned (.int .i64 (cl n)) ∧ w = w' := by
  go_enter Try.func29, Try.ntmps29
  go_wp2
  go_loop [3] (fun c => ∃ f k : Nat, f + k = 18 ∧ k ≤ 18 ∧ c = .int .i64 ((16 * 2 ^ k : Nat) : Int) ∧ Hid (clAux f (16 * 2 ^ k) n = cl n)) (fun c => 8388608 - (intOf c).toNat)
  case atStart => exact ⟨18, 0, rfl, by omega, rfl, Lib.hid rfl⟩
  case round =>
    obtain ⟨f, k, hfk, hk, rfl, HE⟩ := hrel
    have hp := Nat.one_le_two_pow (n := k)
    have hp2 := Nat.pow_le_pow_right (n := 2) (by decide) hk
    obtain ⟨c, hc⟩ : ∃ c, c = 16 * 2 ^ k := ⟨_, rfl⟩
    rw [← hc] at HE ⊢
    have hc1 : 16 ≤ c := by omega
    have hc2 : c ≤ 4194304 := by omega
    by_cases hlt : (c : Int) < n
    · have hk18 : k < 18 := by
        rcases Nat.lt_or_ge k 18 with h1 | h1
        · exact h1
        · obtain rfl : k = 18 := by omega
          omega
      have HC : Hid (2 * c = 16 * 2 ^ (k + 1)) := Lib.hid (by rw [hc, Nat.pow_succ]; omega)
      have HN : Hid (clAux (f - 1) (2 * c) n = cl n) := Lib.hid (by
        have := HE.out
        obtain ⟨f', rfl⟩ : ∃ f', f = f' + 1 := ⟨f - 1, by omega⟩
        unfold clAux at this
        rw [if_pos hlt] at this
        exact this)
      have hd : decide ((c : Int) < 8000000) = true := decide_eq_true (by omega)
      clear hc hp hp2 h
      go_wp2
      go_round
      case rel => exact ⟨f - 1, k + 1, by omega, by omega, by rw [← HC.out]; go_num, by rw [← HC.out]; exact HN⟩
      case measure => simp [intOf]; omega
    · have HN : Hid (c = cl n) := Lib.hid (by
        rw [← HE.out]
        cases f with
        | zero => rfl
        | succ f => unfold clAux; rw [if_neg hlt])
      clear hc hp hp2
      go_wp2
      go_ret
      exact ⟨ret_int (by rw [HN.out]), rfl⟩
set_option maxRecDepth 100000 in
theorem nilA_Take (w : World) (n : Int) : Calls Try.prog 28 #[.pointer none, .int .i64 n] w fun e w' => e = .returned (.tuple #[.int .i64 0, .int .i64 12]) ∧ w = w' := by
  go_enter Try.func28, Try.ntmps28
  go_wp2
  go_ret2
  exact ⟨rfl, rfl⟩
set_option maxRecDepth 100000 in
theorem nilA_Give (w : World) (n : Int) : Calls Try.prog 27 #[.pointer none, .int .i64 n] w fun e w' => e = .returned (.int .i64 12) ∧ w = w' := by
  go_enter Try.func27, Try.ntmps27
  go_wp2
  go_ret
  exact ⟨rfl, rfl⟩
set_option maxRecDepth 100000 in
theorem nilA_Room (w : World) (n : Int) : Calls Try.prog 33 #[.pointer none, .int .i64 n] w fun e w' => e = .returned (.tuple #[.int .i64 0, .bool false]) ∧ w = w' := by
  go_enter Try.func33, Try.ntmps33
  go_wp2
  go_ret2
  exact ⟨rfl, rfl⟩
set_option maxRecDepth 100000 in
theorem nilA_has (w : World) (n k : Int) : Calls Try.prog 47 #[.pointer none, .int .i64 n, .int .i64 k] w fun e w' => e = .returned (.int .i64 12) ∧ w = w' := by
  go_enter Try.func47, Try.ntmps47
  go_wp2
  go_ret
  exact ⟨rfl, rfl⟩
set_option maxRecDepth 100000 in
theorem nilA_word (w : World) (n k : Int) : Calls Try.prog 48 #[.pointer none, .int .i64 n, .int .i64 k] w fun e w' => e = .returned (.int .i64 12) ∧ w = w' := by
  go_enter Try.func48, Try.ntmps48
  go_wp2
  go_ret
  exact ⟨rfl, rfl⟩
set_option maxRecDepth 100000 in
theorem nilA_Bytes (w : World) (n k : Int) : Calls Try.prog 36 #[.pointer none, .int .i64 n, .int .i64 k] w fun e w' => e = .returned (.tuple #[.slice none 0 0, .int .i64 12]) ∧ w = w' := by
  go_enter Try.func36, Try.ntmps36
  go_wp2_with (go_at_call 47; refine (nilA_has _ _ _).mono ?_; rintro e w' ⟨rfl, rfl⟩)
  go_ret2
  exact ⟨rfl, rfl⟩
set_option maxRecDepth 100000 in
theorem nilA_Copy (w : World) (n : Int) : Calls Try.prog 35 #[.pointer none, .int .i64 n, .slice none 0 0] w fun e w' => e = .returned (.int .i64 12) ∧ w = w' := by
  go_enter Try.func35, Try.ntmps35
  go_wp2_with (go_at_call 47; refine (nilA_has _ _ _).mono ?_; rintro e w' ⟨rfl, rfl⟩)
  go_ret
  exact ⟨rfl, rfl⟩
set_option maxRecDepth 100000 in
theorem nilA_Get (w : World) (n k : Int) : Calls Try.prog 37 #[.pointer none, .int .i64 n, .int .i64 k] w fun e w' => e = .returned (.tuple #[.int .u64 0, .int .i64 12]) ∧ w = w' := by
  go_enter Try.func37, Try.ntmps37
  go_wp2_with (go_at_call 48; refine (nilA_word _ _ _).mono ?_; rintro e w' ⟨rfl, rfl⟩)
  go_ret2
  exact ⟨rfl, rfl⟩
set_option maxRecDepth 100000 in
theorem nilA_Put (w : World) (n k x : Int) : Calls Try.prog 38 #[.pointer none, .int .i64 n, .int .i64 k, .int .u64 x] w fun e w' => e = .returned (.int .i64 12) ∧ w = w' := by
  go_enter Try.func38, Try.ntmps38
  go_wp2_with (go_at_call 48; refine (nilA_word _ _ _).mono ?_; rintro e w' ⟨rfl, rfl⟩)
  go_ret
  exact ⟨rfl, rfl⟩
set_option maxRecDepth 100000 in
theorem nilA_Live (w : World) : Calls Try.prog 30 #[.pointer none] w fun e w' => e = .returned (.int .i64 0) ∧ w = w' := by
  go_enter Try.func30, Try.ntmps30
  go_wp2
  go_ret
  exact ⟨rfl, rfl⟩
set_option maxRecDepth 100000 in
theorem nilA_Height (w : World) : Calls Try.prog 31 #[.pointer none] w fun e w' => e = .returned (.int .i64 0) ∧ w = w' := by
  go_enter Try.func31, Try.ntmps31
  go_wp2
  go_ret
  exact ⟨rfl, rfl⟩
set_option maxRecDepth 100000 in
theorem nilA_Size (w : World) : Calls Try.prog 32 #[.pointer none] w fun e w' => e = .returned (.int .i64 0) ∧ w = w' := by
  go_enter Try.func32, Try.ntmps32
  go_wp2
  go_ret
  exact ⟨rfl, rfl⟩
set_option maxRecDepth 100000 in
theorem Class_big (n : Int) (w : World) (h : 4194304 < n) : Calls Try.prog 34 #[.int .i64 n] w fun e w' => e = .returned (.int .i64 0) ∧ w = w' := by
  go_enter Try.func34, Try.ntmps34
  go_wp2
  go_ret
  exact ⟨rfl, rfl⟩
set_option maxHeartbeats 2000000 in
set_option maxRecDepth 100000 in
theorem arenaNone_walk (a0 : Int) (a1 : Int) (w0 : (Lit.int .i64 a0).wf = true) (w1 : (Lit.int .i64 a1).wf = true) (w : World) :
    Calls Try.prog 10 #[.int .i64 a0, .int .i64 a1] w fun e w' => e = .returned (.bool true) ∧ Below w.heap.size w w' := by
  clear w0 w1
  by_cases hn : a1 ≤ 4194304
  · obtain ⟨c, hc⟩ : ∃ c, c = cl a1 := ⟨_, rfl⟩
    have HC : Hid (∀ W, Calls Try.prog 34 #[.int .i64 a1] W fun e w' => e = .returned (.int .i64 c) ∧ W = w') := Lib.hid (fun W => by rw [hc]; exact Class_any a1 W hn)
    have HD : Hid (∀ W, Calls Try.prog 29 #[.int .i64 a1] W fun e w' => e = .returned (.int .i64 c) ∧ W = w') := Lib.hid (fun W => by rw [hc]; exact class_any a1 W hn)
    have hcc : ((c : Int) == (c : Int)) = true := by simp
    clear hc
    go_enter Try.func10, Try.ntmps10
    go_wp2_with (first
      | (go_at_call 25; refine (awake4_any _).mono ?_; rintro e w1 ⟨rfl, hb1⟩; have HB1 := Lib.hid hb1; clear hb1)
      | (go_at_call 34; refine (HC.out _).mono ?_; rintro e w' ⟨rfl, rfl⟩)
      | (go_at_call 29; refine (HD.out _).mono ?_; rintro e w' ⟨rfl, rfl⟩)
      | (go_at_call 28; refine (nilA_Take _ _).mono ?_; rintro e w' ⟨rfl, rfl⟩)
      | (go_at_call 27; refine (nilA_Give _ _).mono ?_; rintro e w' ⟨rfl, rfl⟩)
      | (go_at_call 33; refine (nilA_Room _ _).mono ?_; rintro e w' ⟨rfl, rfl⟩)
      | (go_at_call 36; refine (nilA_Bytes _ _ _).mono ?_; rintro e w' ⟨rfl, rfl⟩)
      | (go_at_call 35; refine (nilA_Copy _ _).mono ?_; rintro e w' ⟨rfl, rfl⟩)
      | (go_at_call 37; refine (nilA_Get _ _ _).mono ?_; rintro e w' ⟨rfl, rfl⟩)
      | (go_at_call 38; refine (nilA_Put _ _ _ _).mono ?_; rintro e w' ⟨rfl, rfl⟩)
      | (go_at_call 30; refine (nilA_Live _).mono ?_; rintro e w' ⟨rfl, rfl⟩)
      | (go_at_call 31; refine (nilA_Height _).mono ?_; rintro e w' ⟨rfl, rfl⟩)
      | (go_at_call 32; refine (nilA_Size _).mono ?_; rintro e w' ⟨rfl, rfl⟩))
    go_ret
    exact ⟨rfl, HB1.out⟩
  · have hn' : 4194304 < a1 := by omega
    have HC := Lib.hid (fun W => Class_big a1 W hn')
    go_enter Try.func10, Try.ntmps10
    go_wp2_with (first
      | (go_at_call 25; refine (awake4_any _).mono ?_; rintro e w1 ⟨rfl, hb1⟩; have HB1 := Lib.hid hb1; clear hb1)
      | (go_at_call 34; refine (HC.out _).mono ?_; rintro e w' ⟨rfl, rfl⟩)
      | (go_at_call 28; refine (nilA_Take _ _).mono ?_; rintro e w' ⟨rfl, rfl⟩)
      | (go_at_call 27; refine (nilA_Give _ _).mono ?_; rintro e w' ⟨rfl, rfl⟩)
      | (go_at_call 33; refine (nilA_Room _ _).mono ?_; rintro e w' ⟨rfl, rfl⟩)
      | (go_at_call 36; refine (nilA_Bytes _ _ _).mono ?_; rintro e w' ⟨rfl, rfl⟩)
      | (go_at_call 35; refine (nilA_Copy _ _).mono ?_; rintro e w' ⟨rfl, rfl⟩)
      | (go_at_call 37; refine (nilA_Get _ _ _).mono ?_; rintro e w' ⟨rfl, rfl⟩)
      | (go_at_call 38; refine (nilA_Put _ _ _ _).mono ?_; rintro e w' ⟨rfl, rfl⟩)
      | (go_at_call 30; refine (nilA_Live _).mono ?_; rintro e w' ⟨rfl, rfl⟩)
      | (go_at_call 31; refine (nilA_Height _).mono ?_; rintro e w' ⟨rfl, rfl⟩)
      | (go_at_call 32; refine (nilA_Size _).mono ?_; rintro e w' ⟨rfl, rfl⟩))
    go_ret
    exact ⟨rfl, HB1.out⟩

set_option maxRecDepth 100000 in
theorem arenaNone_lifted (os : Os) (started : os.Started) (H : Type) (enc : TypeId × Value → H) :
    ReturnsInHanded {} Try.checked os 10 .any (Rows.arenaNoneSpec.pre6 enc Try.prog Try.f10 Rows.arenaNoneRow.domain false) (Rows.arenaNoneSpec.post enc Try.prog Try.f10 false true false false) := by
  refine returnsInHanded_of_change (C := Try.checked) Try.own started (by kernel_rfl) Try.func10
    (ChangeSpec.witness6 (enc := enc) (C := Try.checked) false ⟨#[], #[.int .i64 0, .int .i64 0], []⟩ 8 (by kernel_rfl) (by kernel_rfl) (by kernel_rfl) (by kernel_rfl)) ?_
  intro W base args ds gs before hval0 hW hcnd _
  have hval : ∀ (j : Nat) t v, Try.f10.params[j]? = some t → args[j]? = some v → Value.okWide Try.prog W .any base t v := hval0
  have hW' := hW
  obtain ⟨p, q, hA0, hV, rfl, hfz, hnd⟩ := hW
  have hA : DataW.TrodAll enc Try.prog W 0 (fun _ => true) true Try.f10.params.toList args.toList ds p := hA0
  rw [Try.params10] at hA hval
  obtain ⟨v0, vs0, d0, ds0, p0, q0, hargs, rfl, rfl, h0, r0⟩ := trodAll_cons hA
  obtain ⟨v1, vs1, d1, ds1, p1, q1, rfl, rfl, rfl, h1, r1⟩ := trodAll_cons r0
  obtain ⟨rfl, rfl, rfl⟩ := trodAll_nil r1
  obtain rfl : args = #[v0, v1] := by cases args; simp_all
  obtain ⟨rfl, rfl⟩ := trodVars_none hV
  obtain ⟨a0, rfl, rfl, rfl, w0⟩ := open_int Try.underlying3 (hval 0 3 v0 rfl rfl) h0
  obtain ⟨a1, rfl, rfl, rfl, w1⟩ := open_int Try.underlying3 (hval 1 3 v1 rfl rfl) h1
  clear hA0 hval0
  simp only [List.append_nil] at hW'
  refine (arenaNone_walk a0 a1 w0 w1 W).mono fun e W' ⟨he, hg⟩ => ?_
  subst he
  exact ⟨_, rfl, _, _, _, [], [], [], hW', (trodAll_cons_mk (shut_bool Try.underlying4 _) trodAll_mk0), (trodAll_cons_mk (shut_int Try.underlying3 w0) (trodAll_cons_mk (shut_int Try.underlying3 w1) trodAll_mk0)), rfl, hg.frame _, fun h => by cases h⟩

theorem arenaNone_over : Rows.arenaNoneRow.holds Try.pinned (OpenSpec.ofChange Rows.arenaNoneSpec) :=
  OpenClaim.holds_of_wide 10 Try.f10 rfl rfl rfl rfl rfl rfl rfl ⟨rfl, rfl, rfl, rfl, rfl⟩ rfl rfl rfl rfl rfl (by kernel_rfl) Try.func10 (by kernel_rfl)
    (of_decide_eq_true (by kernel_rfl)) (by unfold Func.isWrapper; first | (rw [if_pos (by decide +kernel)]; kernel_rfl) | (rw [if_neg (by decide +kernel)]; exact ⟨rfl, rfl⟩))
    (fun os started H enc _ => arenaNone_lifted os started H enc)

theorem arenaNone_proved : Rows.ArenaNoneSaid :=
  arenaNone_over
#print axioms arenaNone_proved
end Go.Proofs.Ytmphpdonpaefpaa
