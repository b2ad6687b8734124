/-
  Called with any number with a sign and any number of bits, grommetlaw01.LebNeeds returns true; no condition.
-/
import Derived.Test.YtchdcimmbmphnaaLk
import Derived.WalkKit
import Derived.ProofKit
import Derived.OpenShut
import Derived.ShutString
import Derived.ChangeOld
import Derived.Below
namespace Go.Proofs.Ytchdcimmbmphnaa
open Go.ChangeShapes Go.WideShapes Go.ChangeAt Go.RowKit
open Go.ChangeMaps (open_string shut_string)
set_option linter.unusedVariables false      -- a lebNeeds_walk need not use every 'w<i>' (that an integer argument fits its kind)


set_option maxHeartbeats 400000 in
set_option maxRecDepth 100000 in
theorem lebNeeds_walk (a0 : Int) (a1 : Int) (w0 : (Lit.int .i64 a0).wf = true) (w1 : (Lit.int .i64 a1).wf = true) (w : World) :
    Calls Try.prog 8 #[.int .i64 a0, .int .i64 a1] w fun e w' => e = .returned (.bool true) ∧ Below w.heap.size w w' := by
  have hb0 := bounds_i64 w0
  have hn64 : Hid (-9223372036854775808 ≤ a0 ∧ a0 < 9223372036854775808) := Lib.hid (by omega)
  obtain ⟨q, hq, hqe⟩ := tmod64 a1
  clear w0 w1 hb0
  go_enter Try.func8, Try.ntmps8
  go_wp2
  go_loop [6] (fun v => ∃ k : Nat, k ≤ 63 ∧ v = .int .i64 ((k : Int) + 1) ∧ Hid (∀ j, j < k → ¬ Leb.fit (j + 1) a0)) (fun v => 64 - (intOf v).toNat)
  case atStart => exact ⟨0, by omega, by go_num, Lib.hid (fun j a => by omega)⟩
  case round =>
    obtain ⟨k, hk64, rfl, HR⟩ := hrel
    have hsp := shr_fit a0 k
    by_cases hc : k < 63 ∧ ¬ Leb.fit (k + 1) a0
    · obtain ⟨hlt, hp⟩ := hc
      have h0 : (a0 / 2 ^ k != 0) = true := by
        rw [bne_iff_ne]; exact fun e => hp (hsp.1 (.inl e))
      have h1 : (a0 / 2 ^ k != -1) = true := by
        rw [bne_iff_ne]; exact fun e => hp (hsp.1 (.inr e))
      have HR2 : Hid (∀ j, j < k + 1 → ¬ Leb.fit (j + 1) a0) := Lib.hid (fun j a => by
        by_cases e : j = k
        · rw [e]; exact hp
        · exact HR.out j (by omega))
      clear hp hsp
      go_wp2
      go_round
      case rel => exact ⟨k + 1, by omega, by go_num, HR2⟩
      case measure => simp [intOf]; omega
    · have hfit : (k ≤ q ↔ Leb.fit (1 + (q : Int)).toNat a0) := by
        have e : (1 + (q : Int)).toNat = q + 1 := by omega
        rw [e]
        constructor
        · intro h
          have hk : Leb.fit (k + 1) a0 := by
            by_cases h64 : k < 63
            · exact Decidable.byContradiction fun g => hc ⟨h64, g⟩
            · have e2 : k = 63 := by omega
              rw [e2]
              exact hn64.out
          unfold Leb.fit at hk ⊢
          have := Leb.pow_le (a := k + 1 - 1) (b := q + 1 - 1) (by omega)
          rw [Leb.ipow_cast] at *
          omega
        · intro h
          rcases Nat.lt_or_ge q k with g | g
          · exact absurd h (HR.out q g)
          · exact g
      have hu := Leb.sgn_enc a0 (1 + (q : Int)) hn64.out.1 hn64.out.2 (by omega) (by omega)
      have HP := Lib.hid (putS_nil a0 w hn64.out.1 hn64.out.2)
      have hds : (63 ≤ k) ∨ (k < 63 ∧ ((a0 / 2 ^ k != 0) = false ∨ ((a0 / 2 ^ k != 0) = true ∧ (a0 / 2 ^ k != -1) = false))) := by
        rcases Nat.lt_or_ge k 63 with g | g
        · refine .inr ⟨g, ?_⟩
          have hf : Leb.fit (k + 1) a0 := Decidable.byContradiction fun x => hc ⟨g, x⟩
          rcases hsp.2 hf with e | e <;> rw [e]
          · exact .inl rfl
          · exact .inr ⟨rfl, rfl⟩
        · exact .inl g
      clear hc hsp
      have hkq : (k ≤ q ∧ Leb.sgn (Leb.enc (Leb.szS a0) a0) (1 + (q : Int)) = (a0, Leb.szS a0 + 1, 0)) ∨ (q < k ∧ Leb.sgn (Leb.enc (Leb.szS a0) a0) (1 + (q : Int)) = (0, 0, 4)) := by
        rcases Nat.lt_or_ge q k with g | g
        · exact .inr ⟨g, by rw [hu, if_neg (fun h => by have := hfit.2 h; omega)]⟩
        · exact .inl ⟨g, by rw [hu, if_pos (hfit.1 g)]⟩
      clear hu hfit
      rcases hkq with ⟨hkq, hU⟩ | ⟨hkq, hU⟩
      all_goals
        have HU := Lib.hid hU
        clear hU
        rcases hds with hd | ⟨hd, hd2 | ⟨hd2, hd3⟩⟩
        all_goals
          go_wp2_with (first | (go_at_call 19; refine HP.out.mono ?_; rintro e w1 ⟨g, cp, rfl, hby, hbel⟩; have HBy := Lib.hid hby; have HBl := Lib.hid hbel; clear hby hbel) | (go_at_call 16; refine (signed_any _ _ _ (Leb.enc (Leb.szS a0) a0) (1 + (q : Int)) _ HBy.out).mono ?_; rw [HU.out]; rintro e w2 ⟨rfl, rfl⟩) | (go_at_call 13; refine (awake1_any _).mono ?_; rintro e w3 ⟨rfl, hbel⟩; have HB3 := Lib.hid hbel; clear hbel))
          go_ret
          exact ⟨rfl, HBl.out.trans (HB3.out.mono HBl.out.size)⟩

set_option maxRecDepth 100000 in
theorem lebNeeds_lifted (os : Os) (started : os.Started) (H : Type) (enc : TypeId × Value → H) :
    ReturnsInHanded {} Try.checked os 8 .any (Rows.lebNeedsSpec.pre6 enc Try.prog Try.f8 Rows.lebNeedsRow.domain false) (Rows.lebNeedsSpec.post enc Try.prog Try.f8 false true false false) := by
  refine returnsInHanded_of_change (C := Try.checked) Try.own started (by kernel_rfl) Try.func8
    (ChangeSpec.witness6 (enc := enc) (C := Try.checked) false ⟨#[], #[.int .i64 0, .int .i64 0], []⟩ 8 (by kernel_rfl) (by kernel_rfl) (by kernel_rfl) (by kernel_rfl)) ?_
  intro W base args ds gs before hval0 hW hcnd _
  have hval : ∀ (j : Nat) t v, Try.f8.params[j]? = some t → args[j]? = some v → Value.okWide Try.prog W .any base t v := hval0
  have hW' := hW
  obtain ⟨p, q, hA0, hV, rfl, hfz, hnd⟩ := hW
  have hA : DataW.TrodAll enc Try.prog W 0 (fun _ => true) true Try.f8.params.toList args.toList ds p := hA0
  rw [Try.params8] at hA hval
  obtain ⟨v0, vs0, d0, ds0, p0, q0, hargs, rfl, rfl, h0, r0⟩ := trodAll_cons hA
  obtain ⟨v1, vs1, d1, ds1, p1, q1, rfl, rfl, rfl, h1, r1⟩ := trodAll_cons r0
  obtain ⟨rfl, rfl, rfl⟩ := trodAll_nil r1
  obtain rfl : args = #[v0, v1] := by cases args; simp_all
  obtain ⟨rfl, rfl⟩ := trodVars_none hV
  obtain ⟨a0, rfl, rfl, rfl, w0⟩ := open_int Try.underlying2 (hval 0 2 v0 rfl rfl) h0
  obtain ⟨a1, rfl, rfl, rfl, w1⟩ := open_int Try.underlying3 (hval 1 3 v1 rfl rfl) h1
  clear hA0 hval0
  simp only [List.append_nil] at hW'
  refine (lebNeeds_walk a0 a1 w0 w1 W).mono fun e W' ⟨he, hg⟩ => ?_
  subst he
  exact ⟨_, rfl, _, _, _, [], [], [], hW', (trodAll_cons_mk (shut_bool Try.underlying4 _) trodAll_mk0), (trodAll_cons_mk (shut_int Try.underlying2 w0) (trodAll_cons_mk (shut_int Try.underlying3 w1) trodAll_mk0)), rfl, hg.frame _, fun h => by cases h⟩

theorem lebNeeds_over : Rows.lebNeedsRow.holds Try.pinned (OpenSpec.ofChange Rows.lebNeedsSpec) :=
  OpenClaim.holds_of_wide 8 Try.f8 rfl rfl rfl rfl rfl rfl rfl ⟨rfl, rfl, rfl, rfl, rfl⟩ rfl rfl rfl rfl rfl (by kernel_rfl) Try.func8 (by kernel_rfl)
    (of_decide_eq_true (by kernel_rfl)) (by unfold Func.isWrapper; first | (rw [if_pos (by decide +kernel)]; kernel_rfl) | (rw [if_neg (by decide +kernel)]; exact ⟨rfl, rfl⟩))
    (fun os started H enc _ => lebNeeds_lifted os started H enc)

theorem lebNeeds_proved : Rows.LebNeedsSaid :=
  lebNeeds_over
#print axioms lebNeeds_proved
end Go.Proofs.Ytchdcimmbmphnaa
