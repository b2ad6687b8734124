/-
  Called with any op, any number of bits and any word, grommetlaw05.WordUnary returns true, the tables of math/bits lying as the program's text lays them; no other condition.
-/
import Derived.Test.YtmbnaejoiglckaaDoorRa
import Derived.Test.YtmbnaejoiglckaaDoorCards
import Derived.WalkKit
import Derived.ProofKit
import Derived.OpenShut
import Derived.ShutString
import Derived.ChangeOld
import Derived.Below
namespace Go.Proofs.YtmbnaejoiglckaaDoor
open Go.ChangeShapes Go.WideShapes Go.ChangeAt Go.RowKit
set_option linter.unusedVariables false      -- a wordUnary_walk need not use every 'w<i>' (that an integer argument fits its kind)


set_option maxRecDepth 100000 in
theorem Unary_bad (op n : Int) (a : Nat) (w : World) (h : ¬ (Wd.ok n ∧ 0 ≤ op ∧ op < 4)) :
    Calls Tryd.prog 11 #[.int .i64 op, .int .i64 n, .int .u64 a] w fun e w' =>
      e = .returned (.tuple #[.int .u64 0, .int .i64 1]) ∧ Below w.heap.size w w' := by
  have K := Lib.hid (known_no op 4 n w h)
  clear h
  go_enter Tryd.func11, Tryd.ntmps11
  go_wp2_with (go_at_call 33; refine K.out.mono ?_; rintro e w1 ⟨rfl, rfl⟩)
  go_ret2
  exact ⟨rfl, Below.refl _ _⟩
theorem un_val (a0 n : Int) (a : Nat) (h : Wd.ok n) (h0 : 0 ≤ a0) (h3 : a0 ≤ 3) (ha : a < 18446744073709551616) :
    (if a0 = 0 then (un (bt a) n.toNat).2.1 else if a0 = 1 then (un (bt a) n.toNat).2.2 else if a0 = 2 then (un (bt a) n.toNat).1 else if (un (bt a) n.toNat).1 = 0 then 1 else 0) = uz a0 n a := by
  obtain ⟨u0, u1, u2, u3, u4⟩ := un_uz n a h ha
  generalize un (bt a) n.toNat = U at *
  by_cases q0 : a0 = 0
  · rw [if_pos q0, q0]; exact u0
  rw [if_neg q0]
  by_cases q1 : a0 = 1
  · rw [if_pos q1, q1]; exact u1
  rw [if_neg q1]
  by_cases q2 : a0 = 2
  · rw [if_pos q2, q2]; exact u2
  rw [if_neg q2, show a0 = 3 from by omega]
  by_cases q : U.1 = 0
  · rw [if_pos q]; exact (u3.1 q).symm
  · rw [if_neg q]; exact (u4.1 q).symm
theorem RU_post (w1 : World) (x y : Nat) (a0 n : Int) (a : Nat) (e : x = y) (h : Calls Tryd.prog 16 #[.int .i64 a0, .int .i64 n, .int .u64 a] w1 fun e w' => e = .returned (.int .u64 ((x : Nat) : Int)) ∧ Below w1.heap.size w1 w') :
    Calls Tryd.prog 16 #[.int .i64 a0, .int .i64 n, .int .u64 a] w1 fun e w' => e = .returned (.int .u64 ((y : Nat) : Int)) ∧ Below w1.heap.size w1 w' := by subst e; exact h
theorem RU_is (a0 a1 : Int) (a : Nat) (h : Wd.ok a1) (h0 : 0 ≤ a0) (h3 : a0 ≤ 3) (ha : a < 18446744073709551616) (w1 : World) :
    Calls Tryd.prog 16 #[.int .i64 a0, .int .i64 a1, .int .u64 a] w1 fun e w' => e = .returned (.int .u64 ((uz a0 a1 a : Nat) : Int)) ∧ Below w1.heap.size w1 w' := by
  refine RU_post w1 _ _ a0 a1 a (un_val a0 a1 a h h0 h3 ha) ?_
  rcases h with rfl | rfl
  · exact RUnary_any a0 32 a w1 (by decide) (by decide) h0 h3 (List_any 32 a w1 (by decide) (by decide) ha)
  · exact RUnary_any a0 64 a w1 (by decide) (by decide) h0 h3 (List_any 64 a w1 (by decide) (by decide) ha)
/-- the word cut, and with its sign, as the statement reckons them -/
theorem cases_sign (n : Int) (a : Nat) (ha : a < 18446744073709551616) :
    (n = 32 ∧ ∃ c : Nat, c < 2147483648 ∧ (a : Int) % 4294967296 = (c : Int) ∧ Wd.cut n a = c ∧ Wd.sgn n a = (c : Int)) ∨
    (n = 32 ∧ ∃ c : Nat, 2147483648 ≤ c ∧ c < 4294967296 ∧ (a : Int) % 4294967296 = (c : Int) ∧ Wd.cut n a = c ∧ Wd.sgn n a = (c : Int) - 4294967296) ∨
    (n ≠ 32 ∧ Wd.cut n a = a ∧ wrap64 (a : Int) = Wd.sgn n a) := by
  by_cases h : n = 32
  · subst h
    rcases Nat.lt_or_ge (a % 4294967296) 2147483648 with g | g
    · refine .inl ⟨rfl, a % 4294967296, g, by simp, rfl, ?_⟩
      unfold Wd.sgn
      rw [if_pos rfl, if_pos g]
    · refine .inr (.inl ⟨rfl, a % 4294967296, g, Nat.mod_lt _ (by decide), by simp, rfl, ?_⟩)
      unfold Wd.sgn
      rw [if_pos rfl, if_neg (by omega)]
  · refine .inr (.inr ⟨h, by simp [Wd.cut, h], ?_⟩)
    unfold Wd.sgn wrap64
    rw [if_neg h]
    split <;> omega
set_option maxHeartbeats 4000000 in
set_option maxRecDepth 100000 in
theorem wordUnary_walk (a0 : Int) (a1 : Int) (a2 : Int) (w0 : (Lit.int .i64 a0).wf = true) (w1 : (Lit.int .i64 a1).wf = true) (w2 : (Lit.int .u64 a2).wf = true) (w : World) (hT : Tb w) :
    Calls Tryd.prog 3 #[.int .i64 a0, .int .i64 a1, .int .u64 a2] w fun e w' => e = .returned (.bool true) ∧ Below w.heap.size w w' := by
  obtain ⟨a, rfl, ha⟩ := u64_nat w2
  clear w0 w1 w2
  have AW := Lib.hid awake_any
  have C := Lib.hid (fun w1 : World => Cut_any a1 a w1)
  have S := Lib.hid (fun w1 : World => Sign_any a1 a w1 ha)
  have CS := cases_sign a1 a ha
  have F := sgn_fit a1 a ha
  by_cases hk : Wd.ok a1 ∧ 0 ≤ a0 ∧ a0 ≤ 3
  · obtain ⟨h, o1, o2⟩ := hk
    have R := Lib.hid (fun w1 : World => right_yes a1 w1 h)
    have T := Lib.hid (Unary_ok a0 a1 a w h o1 o2 ha hT)
    have D := Lib.hid (RU_is a0 a1 a h o1 o2 ha)
    obtain ⟨t, et⟩ : ∃ t, t = uz a0 a1 a := ⟨_, rfl⟩
    rw [← et] at T D
    clear et hT h
    rcases CS with ⟨rfl, c, c1, c2, c3, c4⟩ | ⟨rfl, c, c1, c1', c2, c3, c4⟩ | ⟨hn, c3, c4⟩
    · rw [c3] at C
      rw [c4] at S
      have hd : decide ((2147483648 : Int) ≤ (c : Int)) = false := by simp; omega
      have C1 := Lib.hid c1
      clear c1
      clear c3 c4 F ha
      go_enter Tryd.func3, Tryd.ntmps3
      go_wp2_with (first
        | (go_at_call 11; refine T.out.mono ?_; rintro e w3 ⟨rfl, hb3⟩; have H3 := Lib.hid hb3; clear hb3)
        | (go_at_call 12; refine (C.out _).mono ?_; rintro e w4 ⟨rfl, rfl⟩)
        | (go_at_call 13; refine (S.out _).mono ?_; rintro e w5 ⟨rfl, rfl⟩)
        | (go_at_call 14; refine (R.out _).mono ?_; rintro e w6 ⟨rfl, rfl⟩)
        | (go_at_call 16; refine (D.out _).mono ?_; rintro e w7 ⟨rfl, hb7⟩; have H7 := Lib.hid (H3.out.trans (hb7.mono H3.out.size)); clear hb7)
        | (go_at_call 15; refine (AW.out _).mono ?_; rintro e w8 ⟨rfl, rfl⟩))
      go_ret
      exact ⟨rfl, H7.out⟩
    · rw [c3] at C
      rw [c4] at S
      obtain ⟨z, ez⟩ : ∃ z : Int, z = (c : Int) := ⟨_, rfl⟩
      rw [← ez] at C S c2
      have hz1 : 2147483648 ≤ z := by omega
      have hz2 : z < 4294967296 := by omega
      clear c1 c1' ez
      clear c3 c4 F ha
      go_enter Tryd.func3, Tryd.ntmps3
      go_wp2_with (first
        | (go_at_call 11; refine T.out.mono ?_; rintro e w3 ⟨rfl, hb3⟩; have H3 := Lib.hid hb3; clear hb3)
        | (go_at_call 12; refine (C.out _).mono ?_; rintro e w4 ⟨rfl, rfl⟩)
        | (go_at_call 13; refine (S.out _).mono ?_; rintro e w5 ⟨rfl, rfl⟩)
        | (go_at_call 14; refine (R.out _).mono ?_; rintro e w6 ⟨rfl, rfl⟩)
        | (go_at_call 16; refine (D.out _).mono ?_; rintro e w7 ⟨rfl, hb7⟩; have H7 := Lib.hid (H3.out.trans (hb7.mono H3.out.size)); clear hb7)
        | (go_at_call 15; refine (AW.out _).mono ?_; rintro e w8 ⟨rfl, rfl⟩))
      go_ret
      exact ⟨rfl, H7.out⟩
    · rw [c3] at C
      obtain ⟨s, es⟩ : ∃ s, s = Wd.sgn a1 a := ⟨_, rfl⟩
      rw [← es] at S c4 F
      clear c3 es
      go_enter Tryd.func3, Tryd.ntmps3
      go_wp2_with (first
        | (go_at_call 11; refine T.out.mono ?_; rintro e w3 ⟨rfl, hb3⟩; have H3 := Lib.hid hb3; clear hb3)
        | (go_at_call 12; refine (C.out _).mono ?_; rintro e w4 ⟨rfl, rfl⟩)
        | (go_at_call 13; refine (S.out _).mono ?_; rintro e w5 ⟨rfl, rfl⟩)
        | (go_at_call 14; refine (R.out _).mono ?_; rintro e w6 ⟨rfl, rfl⟩)
        | (go_at_call 16; refine (D.out _).mono ?_; rintro e w7 ⟨rfl, hb7⟩; have H7 := Lib.hid (H3.out.trans (hb7.mono H3.out.size)); clear hb7)
        | (go_at_call 15; refine (AW.out _).mono ?_; rintro e w8 ⟨rfl, rfl⟩))
      go_ret
      exact ⟨rfl, H7.out⟩
  · have T := Lib.hid (Unary_bad a0 a1 a w (fun q => hk ⟨q.1, q.2.1, by omega⟩))
    rcases CS with ⟨rfl, c, c1, c2, c3, c4⟩ | ⟨rfl, c, c1, c1', c2, c3, c4⟩ | ⟨hn, c3, c4⟩
    · have R := Lib.hid (fun w1 : World => right_yes 32 w1 (.inl rfl))
      have q : a0 < 0 ∨ 3 < a0 := by
        have : ¬ (0 ≤ a0 ∧ a0 ≤ 3) := fun q => hk ⟨.inl rfl, q⟩
        omega
      rw [c3] at C
      rw [c4] at S
      have hd : decide ((2147483648 : Int) ≤ (c : Int)) = false := by simp; omega
      have C1 := Lib.hid c1
      clear c1
      clear c3 c4 F ha hk hT
      rcases q with q | q
      all_goals
        go_enter Tryd.func3, Tryd.ntmps3
        go_wp2_with (first
          | (go_at_call 11; refine T.out.mono ?_; rintro e w3 ⟨rfl, hb3⟩; have H3 := Lib.hid hb3; clear hb3)
          | (go_at_call 12; refine (C.out _).mono ?_; rintro e w4 ⟨rfl, rfl⟩)
          | (go_at_call 13; refine (S.out _).mono ?_; rintro e w5 ⟨rfl, rfl⟩)
          | (go_at_call 14; refine (R.out _).mono ?_; rintro e w6 ⟨rfl, rfl⟩)
          | (go_at_call 15; refine (AW.out _).mono ?_; rintro e w8 ⟨rfl, rfl⟩))
        go_ret
        exact ⟨rfl, H3.out⟩
    · have R := Lib.hid (fun w1 : World => right_yes 32 w1 (.inl rfl))
      have q : a0 < 0 ∨ 3 < a0 := by
        have : ¬ (0 ≤ a0 ∧ a0 ≤ 3) := fun q => hk ⟨.inl rfl, q⟩
        omega
      rw [c3] at C
      rw [c4] at S
      obtain ⟨z, ez⟩ : ∃ z : Int, z = (c : Int) := ⟨_, rfl⟩
      rw [← ez] at C S c2
      have hz1 : 2147483648 ≤ z := by omega
      have hz2 : z < 4294967296 := by omega
      clear c1 c1' ez
      clear c3 c4 F ha hk hT
      rcases q with q | q
      all_goals
        go_enter Tryd.func3, Tryd.ntmps3
        go_wp2_with (first
          | (go_at_call 11; refine T.out.mono ?_; rintro e w3 ⟨rfl, hb3⟩; have H3 := Lib.hid hb3; clear hb3)
          | (go_at_call 12; refine (C.out _).mono ?_; rintro e w4 ⟨rfl, rfl⟩)
          | (go_at_call 13; refine (S.out _).mono ?_; rintro e w5 ⟨rfl, rfl⟩)
          | (go_at_call 14; refine (R.out _).mono ?_; rintro e w6 ⟨rfl, rfl⟩)
          | (go_at_call 15; refine (AW.out _).mono ?_; rintro e w8 ⟨rfl, rfl⟩))
        go_ret
        exact ⟨rfl, H3.out⟩
    · have hor : (∃ _ : Hid (∀ w1 : World, Calls Tryd.prog 14 #[.int .i64 a1] w1 fun e w' => e = .returned (.bool true) ∧ w1 = w'), a0 < 0 ∨ 3 < a0) ∨ Hid (∀ w1 : World, Calls Tryd.prog 14 #[.int .i64 a1] w1 fun e w' => e = .returned (.bool false) ∧ w1 = w') := by
        by_cases h : Wd.ok a1
        · refine .inl ⟨Lib.hid (fun w1 => right_yes a1 w1 h), ?_⟩
          have : ¬ (0 ≤ a0 ∧ a0 ≤ 3) := fun q => hk ⟨h, q⟩
          omega
        · exact .inr (Lib.hid (fun w1 => right_no a1 w1 h))
      rw [c3] at C
      obtain ⟨s, es⟩ : ∃ s, s = Wd.sgn a1 a := ⟨_, rfl⟩
      rw [← es] at S c4 F
      clear c3 es hk hT
      rcases hor with ⟨R, q | q⟩ | R
      all_goals
        go_enter Tryd.func3, Tryd.ntmps3
        go_wp2_with (first
          | (go_at_call 11; refine T.out.mono ?_; rintro e w3 ⟨rfl, hb3⟩; have H3 := Lib.hid hb3; clear hb3)
          | (go_at_call 12; refine (C.out _).mono ?_; rintro e w4 ⟨rfl, rfl⟩)
          | (go_at_call 13; refine (S.out _).mono ?_; rintro e w5 ⟨rfl, rfl⟩)
          | (go_at_call 14; refine (R.out _).mono ?_; rintro e w6 ⟨rfl, rfl⟩)
          | (go_at_call 15; refine (AW.out _).mono ?_; rintro e w8 ⟨rfl, rfl⟩))
        go_ret
        exact ⟨rfl, H3.out⟩

set_option maxRecDepth 100000 in
theorem wordUnary_lifted (os : Os) (started : os.Started) (H : Type) (enc : TypeId × Value → H) :
    ReturnsInHanded {} Tryd.checked os 3 .any (fun w args => (Rows.wordUnarySpec.pre enc Tryd.prog Tryd.f3 [] false w args ∧ laidMetH Tryd.prog laidA w) ∧ sizedMet enc Tryd.prog Tryd.f3 (OpenSpec.ofChange Rows.wordUnarySpec) false w args) (Rows.wordUnarySpec.post enc Tryd.prog Tryd.f3 false true false false) := by
  refine returnsInHanded_of_change_and (C := Tryd.checked) (X := fun w _ => laidMetH Tryd.prog laidA w) (fun _ _ _ hh h => h.of_heap hh) Tryd.own started (by kernel_rfl) Tryd.func3
    (ChangeSpec.witness_shaped (enc := enc) (C := Tryd.checked) (os := os) (X := fun w _ => laidMetH Tryd.prog laidA w) false (World.doorLaid Tryd.prog 2000 os) #[.int .i64 0, .int .i64 0, .int .u64 0] 8 rfl (World.shaped_of_RefB (by kernel_rfl) (by kernel_rfl)) (by kernel_rfl) (by kernel_rfl) (by kernel_rfl) (doorA_met os _)) ?_
  intro W base args ds gs before hval0 hW _ _ hL _
  have hval : ∀ (j : Nat) t v, Tryd.f3.params[j]? = some t → args[j]? = some v → Value.okWide Tryd.prog W .any base t v := hval0
  have hW' := hW
  obtain ⟨p, q, hA0, hV, rfl, hfz, hnd⟩ := hW
  have hA : DataW.TrodAll enc Tryd.prog W 0 (fun _ => true) true Tryd.f3.params.toList args.toList ds p := hA0
  rw [Tryd.params3] at hA hval
  obtain ⟨v0, vs0, d0, ds0, p0, q0, hargs, rfl, rfl, h0, r0⟩ := trodAll_cons hA
  obtain ⟨v1, vs1, d1, ds1, p1, q1, rfl, rfl, rfl, h1, r1⟩ := trodAll_cons r0
  obtain ⟨v2, vs2, d2, ds2, p2, q2, rfl, rfl, rfl, h2, r2⟩ := trodAll_cons r1
  obtain ⟨rfl, rfl, rfl⟩ := trodAll_nil r2
  obtain rfl : args = #[v0, v1, v2] := by cases args; simp_all
  obtain ⟨rfl, rfl⟩ := trodVars_none hV
  obtain ⟨a0, rfl, rfl, rfl, w0⟩ := open_int Tryd.underlying3 (hval 0 3 v0 rfl rfl) h0
  obtain ⟨a1, rfl, rfl, rfl, w1⟩ := open_int Tryd.underlying3 (hval 1 3 v1 rfl rfl) h1
  obtain ⟨a2, rfl, rfl, rfl, w2⟩ := open_int Tryd.underlying22 (hval 2 22 v2 rfl rfl) h2
  clear hA0 hval0
  simp only [List.append_nil] at hW'
  refine (wordUnary_walk a0 a1 a2 w0 w1 w2 W (tb_A hL)).mono fun e W' ⟨he, hg⟩ => ?_
  subst he
  exact ⟨_, rfl, _, _, _, [], [], [], hW', (trodAll_cons_mk (shut_bool Tryd.underlying4 _) trodAll_mk0), (trodAll_cons_mk (shut_int Tryd.underlying3 w0) (trodAll_cons_mk (shut_int Tryd.underlying3 w1) (trodAll_cons_mk (shut_int Tryd.underlying22 w2) trodAll_mk0))), rfl, hg.frame _, fun h => by cases h⟩

theorem wordUnary_over : Rows.wordUnaryRow.holds Tryd.pinned (OpenSpec.ofChange Rows.wordUnarySpec) :=
  OpenClaim.holds_of_wide 3 Tryd.f3 rfl rfl rfl rfl rfl rfl rfl ⟨rfl, rfl, rfl, rfl, rfl⟩ rfl rfl rfl rfl rfl (by kernel_rfl) Tryd.func3 (by kernel_rfl)
    (of_decide_eq_true (by kernel_rfl)) (by unfold Func.isWrapper; first | (rw [if_pos (by decide +kernel)]; kernel_rfl) | (rw [if_neg (by decide +kernel)]; exact ⟨rfl, rfl⟩))
    (fun os started H enc _ => wordUnary_lifted os started H enc)

theorem wordUnary_proved : Rows.WordUnaryCardSaid :=
  Claim7.holds_tied_plain_at .later [] [.data] true (true, "397b09112119fa734b71d0dfbaa52ad10e3cfe198ad17a9f7798ec029590703f") true
    wordUnary_over (fun _ h => by cases h) (by kernel_rfl) (fun _ h => by cases h) wordUnary_row_tie rfl ⟨rfl, rfl⟩ (by kernel_rfl) rfl
    (fun f fn hf hfn => by
      obtain rfl : f = 3 := Option.some.inj ((show Tryd.prog.funcNamed "grommet/grommetlaw05.WordUnary" = some 3 by kernel_rfl).symm.trans hf) |>.symm
      obtain rfl : fn = Tryd.f3 := (Option.some.inj (Tryd.func3.symm.trans hfn)).symm
      exact ⟨by kernel_rfl, fun j t ht => by
        rw [Tryd.params3] at ht
        have hm : t ∈ [3, 22] := by
          have := Array.mem_of_getElem? ht
          simp at this ⊢
          omega
        have hall : ([3, 22].all fun u => !Tryd.prog.wantsStandIn u) = true := by kernel_rfl
        exact (show Tryd.prog.wantsStandIn t = false by simpa using List.all_eq_true.1 hall t hm)⟩)
    (by kernel_rfl)
#print axioms wordUnary_proved
end Go.Proofs.YtmbnaejoiglckaaDoor
