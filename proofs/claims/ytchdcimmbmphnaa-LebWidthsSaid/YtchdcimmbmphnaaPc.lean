/-
  Called with any number without a sign and any number of bits, grommetlaw01.LebWidths returns true; no condition.
-/
import Derived.Test.YtchdcimmbmphnaaLk
import Derived.WalkKit
import Derived.ProofKit
import Derived.OpenShut
import Derived.ShutString
import Derived.ChangeOld
import Derived.Below
namespace Go.Proofs.Ytchdcimmbmphnaa
open Go.ChangeShapes Go.WideShapes Go.ChangeAt Go.RowKit
open Go.ChangeMaps (open_string shut_string)
set_option linter.unusedVariables false      -- a lebWidths_walk need not use every 'w<i>' (that an integer argument fits its kind)


set_option maxHeartbeats 400000 in
set_option maxRecDepth 100000 in
theorem lebWidths_walk (a0 : Int) (a1 : Int) (w0 : (Lit.int .u64 a0).wf = true) (w1 : (Lit.int .i64 a1).wf = true) (w : World) :
    Calls Try.prog 6 #[.int .u64 a0, .int .i64 a1] w fun e w' => e = .returned (.bool true) ∧ Below w.heap.size w w' := by
  have hb0 := bounds_u64 w0
  obtain ⟨n, rfl⟩ := Int.eq_ofNat_of_zero_le hb0.1
  have hn64 : Hid (n < 2 ^ 64) := Lib.hid (by omega)
  obtain ⟨q, hq, hqe⟩ := tmod64 a1
  clear w0 w1 hb0
  go_enter Try.func6, Try.ntmps6
  go_wp2
  go_loop [6] (fun v => ∃ k : Nat, 1 ≤ k ∧ k ≤ 64 ∧ v = .int .i64 k ∧ Hid (∀ j, 1 ≤ j → j < k → 2 ^ j ≤ n)) (fun v => 64 - (intOf v).toNat)
  case atStart => exact ⟨1, by omega, by omega, rfl, Lib.hid (fun j a b => by omega)⟩
  case round =>
    obtain ⟨k, hk1, hk64, rfl, HR⟩ := hrel
    by_cases hc : k < 64 ∧ 2 ^ k ≤ n
    · obtain ⟨hlt, hp⟩ := hc
      have hd := (shr_pos n k).2 hp
      have HR2 : Hid (∀ j, 1 ≤ j → j < k + 1 → 2 ^ j ≤ n) := Lib.hid (fun j a b => by
        by_cases e : j = k
        · rw [e]; exact hp
        · exact HR.out j a (by omega))
      clear hp
      go_wp2
      go_round
      case rel => exact ⟨k + 1, by omega, by omega, by go_num, HR2⟩
      case measure => simp [intOf]; omega
    · have hfit : (k ≤ q + 1 ↔ n < 2 ^ (1 + (q : Int)).toNat) := by
        have e : (1 + (q : Int)).toNat = q + 1 := by omega
        rw [e]
        constructor
        · intro h
          by_cases h64 : k < 64
          · have := Leb.pow_le h
            omega
          · have e2 : q + 1 = 64 := by omega
            rw [e2]; exact hn64.out
        · intro h
          rcases Nat.lt_or_ge (q + 1) k with g | g
          · have := HR.out (q + 1) (by omega) g
            omega
          · exact g
      have hu := Leb.uns_enc n (1 + (q : Int)) hn64.out (by omega) (by omega)
      have HP := Lib.hid (put_nil n w hn64.out)
      have hds : (64 ≤ k) ∨ (k < 64 ∧ ¬ (0 : Int) < (n : Int) / 2 ^ k) := by
        rcases Nat.lt_or_ge k 64 with g | g
        · exact .inr ⟨g, fun h => hc ⟨g, (shr_pos n k).1 h⟩⟩
        · exact .inl g
      clear hc
      by_cases hkq : k ≤ q + 1
      · have HU : Hid (Leb.uns (Leb.enc (Leb.szU n) n) (1 + (q : Int)) = (n, Leb.szU n + 1, 0)) := Lib.hid (by rw [hu, if_pos (hfit.1 hkq)])
        clear hu hfit
        rcases hds with hd | ⟨hd, hd2⟩
        all_goals
          go_wp2_with (first | (go_at_call 18; refine HP.out.mono ?_; rintro e w1 ⟨g, cp, rfl, hby, hbel⟩; have HBy := Lib.hid hby; have HBl := Lib.hid hbel; clear hby hbel) | (go_at_call 14; refine (unsigned_any _ _ _ (Leb.enc (Leb.szU n) n) (1 + (q : Int)) _ HBy.out).mono ?_; rw [HU.out]; rintro e w2 ⟨rfl, rfl⟩) | (go_at_call 13; refine (awake1_any _).mono ?_; rintro e w3 ⟨rfl, hbel⟩; have HB3 := Lib.hid hbel; clear hbel))
          go_ret
          exact ⟨rfl, HBl.out.trans (HB3.out.mono HBl.out.size)⟩
      · have HU : Hid (Leb.uns (Leb.enc (Leb.szU n) n) (1 + (q : Int)) = (0, 0, 4)) := Lib.hid (by rw [hu, if_neg (fun h => hkq (hfit.2 h))])
        clear hu hfit
        rcases hds with hd | ⟨hd, hd2⟩
        all_goals
          go_wp2_with (first | (go_at_call 18; refine HP.out.mono ?_; rintro e w1 ⟨g, cp, rfl, hby, hbel⟩; have HBy := Lib.hid hby; have HBl := Lib.hid hbel; clear hby hbel) | (go_at_call 14; refine (unsigned_any _ _ _ (Leb.enc (Leb.szU n) n) (1 + (q : Int)) _ HBy.out).mono ?_; rw [HU.out]; rintro e w2 ⟨rfl, rfl⟩) | (go_at_call 13; refine (awake1_any _).mono ?_; rintro e w3 ⟨rfl, hbel⟩; have HB3 := Lib.hid hbel; clear hbel))
          go_ret
          exact ⟨rfl, HBl.out.trans (HB3.out.mono HBl.out.size)⟩

set_option maxRecDepth 100000 in
theorem lebWidths_lifted (os : Os) (started : os.Started) (H : Type) (enc : TypeId × Value → H) :
    ReturnsInHanded {} Try.checked os 6 .any (Rows.lebWidthsSpec.pre6 enc Try.prog Try.f6 Rows.lebWidthsRow.domain false) (Rows.lebWidthsSpec.post enc Try.prog Try.f6 false true false false) := by
  refine returnsInHanded_of_change (C := Try.checked) Try.own started (by kernel_rfl) Try.func6
    (ChangeSpec.witness6 (enc := enc) (C := Try.checked) false ⟨#[], #[.int .u64 0, .int .i64 0], []⟩ 8 (by kernel_rfl) (by kernel_rfl) (by kernel_rfl) (by kernel_rfl)) ?_
  intro W base args ds gs before hval0 hW hcnd _
  have hval : ∀ (j : Nat) t v, Try.f6.params[j]? = some t → args[j]? = some v → Value.okWide Try.prog W .any base t v := hval0
  have hW' := hW
  obtain ⟨p, q, hA0, hV, rfl, hfz, hnd⟩ := hW
  have hA : DataW.TrodAll enc Try.prog W 0 (fun _ => true) true Try.f6.params.toList args.toList ds p := hA0
  rw [Try.params6] at hA hval
  obtain ⟨v0, vs0, d0, ds0, p0, q0, hargs, rfl, rfl, h0, r0⟩ := trodAll_cons hA
  obtain ⟨v1, vs1, d1, ds1, p1, q1, rfl, rfl, rfl, h1, r1⟩ := trodAll_cons r0
  obtain ⟨rfl, rfl, rfl⟩ := trodAll_nil r1
  obtain rfl : args = #[v0, v1] := by cases args; simp_all
  obtain ⟨rfl, rfl⟩ := trodVars_none hV
  obtain ⟨a0, rfl, rfl, rfl, w0⟩ := open_int Try.underlying24 (hval 0 24 v0 rfl rfl) h0
  obtain ⟨a1, rfl, rfl, rfl, w1⟩ := open_int Try.underlying3 (hval 1 3 v1 rfl rfl) h1
  clear hA0 hval0
  simp only [List.append_nil] at hW'
  refine (lebWidths_walk a0 a1 w0 w1 W).mono fun e W' ⟨he, hg⟩ => ?_
  subst he
  exact ⟨_, rfl, _, _, _, [], [], [], hW', (trodAll_cons_mk (shut_bool Try.underlying4 _) trodAll_mk0), (trodAll_cons_mk (shut_int Try.underlying24 w0) (trodAll_cons_mk (shut_int Try.underlying3 w1) trodAll_mk0)), rfl, hg.frame _, fun h => by cases h⟩

theorem lebWidths_over : Rows.lebWidthsRow.holds Try.pinned (OpenSpec.ofChange Rows.lebWidthsSpec) :=
  OpenClaim.holds_of_wide 6 Try.f6 rfl rfl rfl rfl rfl rfl rfl ⟨rfl, rfl, rfl, rfl, rfl⟩ rfl rfl rfl rfl rfl (by kernel_rfl) Try.func6 (by kernel_rfl)
    (of_decide_eq_true (by kernel_rfl)) (by unfold Func.isWrapper; first | (rw [if_pos (by decide +kernel)]; kernel_rfl) | (rw [if_neg (by decide +kernel)]; exact ⟨rfl, rfl⟩))
    (fun os started H enc _ => lebWidths_lifted os started H enc)

theorem lebWidths_proved : Rows.LebWidthsSaid :=
  lebWidths_over
#print axioms lebWidths_proved
end Go.Proofs.Ytchdcimmbmphnaa
