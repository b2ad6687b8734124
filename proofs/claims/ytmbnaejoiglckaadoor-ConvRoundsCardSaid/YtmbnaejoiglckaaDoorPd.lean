/-
  Called with any word, any number and either answer to whether it has a sign, grommetlaw06.ConvRounds returns true, the tables of math/bits and internal/strconv lying as the program's text lays them; no other condition.
-/
import Derived.Test.YtmbnaejoiglckaaDoorCg
import Derived.Test.YtmbnaejoiglckaaDoorCards
import Derived.WalkKit
import Derived.ProofKit
import Derived.OpenShut
import Derived.ShutString
import Derived.ChangeOld
import Derived.Below
namespace Go.Proofs.YtmbnaejoiglckaaDoor
open Go.ChangeShapes Go.WideShapes Go.ChangeAt Go.RowKit
set_option linter.unusedVariables false      -- a convRounds_walk need not use every 'w<i>' (that an integer argument fits its kind)


set_option maxHeartbeats 4000000 in
set_option maxRecDepth 100000 in
theorem convRounds_walk (a0 : Int) (a1 : Int) (a2 : Bool) (w0 : (Lit.int .u64 a0).wf = true) (w1 : (Lit.int .i64 a1).wf = true) (w : World) (hT : Pw w) :
    Calls Tryd.prog 10 #[.int .u64 a0, .int .i64 a1, .bool a2] w fun e w' => e = .returned (.bool true) ∧ Below w.heap.size w w' := by
  obtain ⟨a, rfl, ha⟩ := u64_nat w0
  clear w0 w1
  have AW := Lib.hid awake6_any
  have HT := Lib.hid hT
  clear hT
  rcases (by omega : a1 % 4 = 0 ∨ a1 % 4 = 1 ∨ a1 % 4 = 2 ∨ a1 % 4 = 3) with hq | hq | hq | hq
  · have hk0 : (IntKind.u64.wrap a1).tmod 4 = 0 := by rw [IntKind.wrap_u64, Int.tmod_eq_emod_of_nonneg (by omega)]; omega
    have Y1 : Hid (∀ w1 : World, Calls Tryd.prog 22 #[.int .u64 a, .int .i64 1] w1 (YPost w1.heap.size 1 (bys a 1) w1)) := Lib.hid (fun w1 => Bytes_ok a 1 w1 (by decide) ha)
    have WV := Lib.hid (wv_bys a 1)
    obtain ⟨bk1, bk2, bk3⟩ := back_1 a a2 ha
    have HE := Lib.hid (bys_of_mod _ a 1 bk1)
    have hmod : a % 2 ^ (8 * 1) = a % 256 := rfl
    have hs : a2 = false → exv 8 64 a2 (a % 256) = a % 256 := fun e => by rw [e]; exact bk2
    have Y2 : Hid (∀ w1 : World, Calls Tryd.prog 22 #[.int .u64 (((exv 8 64 a2 (a % 256) : Nat)) : Int), .int .i64 1] w1 (YPost w1.heap.size 1 (bys (exv 8 64 a2 (a % 256)) 1) w1)) := Lib.hid (fun w1 => Bytes_ok (exv 8 64 a2 (a % 256)) 1 w1 (by decide) bk3)
    rw [HE.out] at Y2
    have WO := Lib.hid (fun (w1 : World) (A : Option Addr) (cap : Nat) (h : Byt w1 A 1 cap (bys a 1)) => Word_ok A 1 cap (bys a 1) w1 (by decide) h)
    have LO := Lib.hid (fun (w1 : World) (A : Option Addr) (cap : Nat) (h : Byt w1 A 1 cap (bys a 1)) => Load_1_64 A cap (bys a 1) a2 w1 h)
    rw [WV.out, hmod] at WO LO
    obtain ⟨x, ex⟩ : ∃ x, x = exv 8 64 a2 (a % 256) := ⟨_, rfl⟩
    rw [← ex] at Y2 LO hs
    have hv : (a : Int) % 256 = ((a % 256 : Nat) : Int) := by simp
    obtain ⟨v, ev⟩ : ∃ v, v = a % 256 := ⟨_, rfl⟩
    rw [← ev] at WO hv hs
    obtain ⟨L, eL⟩ : ∃ L, L = bys a 1 := ⟨_, rfl⟩
    rw [← eL] at Y1 Y2 WO LO
    have HA := Lib.hid ha
    clear bk1 bk2 bk3 hmod ex ev eL hq WV HE ha
    go_enter Tryd.func10, Tryd.ntmps10
    go_wp2_with (first
      | (go_at_call 22; with_reducible refine (Y1.out _).mono ?_; rintro e w1 hY; unfold YPost at hY; obtain ⟨g1, rfl, b1, k1, h1⟩ := hY; have B1 := Lib.hid b1; have H1 := Lib.hid (((Below.refl w.heap.size w).alloc (Nat.le_refl _) _).trans (h1.mono ((Below.refl w.heap.size w).alloc (Nat.le_refl _) _).size)); clear b1 h1)
      | (go_at_call 24; with_reducible refine (WO.out _ _ _ B1.out).mono ?_; rintro e w2 ⟨rfl, rfl⟩)
      | (go_at_call 25; with_reducible refine (LO.out _ _ _ B1.out).mono ?_; rintro e w3 ⟨rfl, rfl⟩)
      | (go_at_call 22; with_reducible refine (Y2.out _).mono ?_; rintro e w4 hY; unfold YPost at hY; obtain ⟨g2, rfl, b2, k2, h2⟩ := hY; have B2 := Lib.hid b2; have B1' := Lib.hid (B1.out.kept h2); have H2 := Lib.hid (H1.out.trans (h2.mono H1.out.size)); have c1 := conv_byt b2; have c2 := conv_byt (B1.out.kept h2); clear b2 h2)
      | (go_at_call 20; refine (AW.out _ (HT.out.below H2.out HT.out.size)).mono ?_; rintro e w5 ⟨rfl, h5⟩; have H5 := Lib.hid (H2.out.trans (h5.mono H2.out.size)); clear h5))
    all_goals
      go_ret
      exact ⟨rfl, H5.out⟩
  · have hk0 : (IntKind.u64.wrap a1).tmod 4 = 1 := by rw [IntKind.wrap_u64, Int.tmod_eq_emod_of_nonneg (by omega)]; omega
    have Y1 : Hid (∀ w1 : World, Calls Tryd.prog 22 #[.int .u64 a, .int .i64 2] w1 (YPost w1.heap.size 2 (bys a 2) w1)) := Lib.hid (fun w1 => Bytes_ok a 2 w1 (by decide) ha)
    have WV := Lib.hid (wv_bys a 2)
    obtain ⟨bk1, bk2, bk3⟩ := back_2 a a2 ha
    have HE := Lib.hid (bys_of_mod _ a 2 bk1)
    have hmod : a % 2 ^ (8 * 2) = a % 65536 := rfl
    have hs : a2 = false → exv 16 64 a2 (a % 65536) = a % 65536 := fun e => by rw [e]; exact bk2
    have Y2 : Hid (∀ w1 : World, Calls Tryd.prog 22 #[.int .u64 (((exv 16 64 a2 (a % 65536) : Nat)) : Int), .int .i64 2] w1 (YPost w1.heap.size 2 (bys (exv 16 64 a2 (a % 65536)) 2) w1)) := Lib.hid (fun w1 => Bytes_ok (exv 16 64 a2 (a % 65536)) 2 w1 (by decide) bk3)
    rw [HE.out] at Y2
    have WO := Lib.hid (fun (w1 : World) (A : Option Addr) (cap : Nat) (h : Byt w1 A 2 cap (bys a 2)) => Word_ok A 2 cap (bys a 2) w1 (by decide) h)
    have LO := Lib.hid (fun (w1 : World) (A : Option Addr) (cap : Nat) (h : Byt w1 A 2 cap (bys a 2)) => Load_2_64 A cap (bys a 2) a2 w1 h)
    rw [WV.out, hmod] at WO LO
    obtain ⟨x, ex⟩ : ∃ x, x = exv 16 64 a2 (a % 65536) := ⟨_, rfl⟩
    rw [← ex] at Y2 LO hs
    have hv : (a : Int) % 65536 = ((a % 65536 : Nat) : Int) := by simp
    obtain ⟨v, ev⟩ : ∃ v, v = a % 65536 := ⟨_, rfl⟩
    rw [← ev] at WO hv hs
    obtain ⟨L, eL⟩ : ∃ L, L = bys a 2 := ⟨_, rfl⟩
    rw [← eL] at Y1 Y2 WO LO
    have HA := Lib.hid ha
    clear bk1 bk2 bk3 hmod ex ev eL hq WV HE ha
    go_enter Tryd.func10, Tryd.ntmps10
    go_wp2_with (first
      | (go_at_call 22; with_reducible refine (Y1.out _).mono ?_; rintro e w1 hY; unfold YPost at hY; obtain ⟨g1, rfl, b1, k1, h1⟩ := hY; have B1 := Lib.hid b1; have H1 := Lib.hid (((Below.refl w.heap.size w).alloc (Nat.le_refl _) _).trans (h1.mono ((Below.refl w.heap.size w).alloc (Nat.le_refl _) _).size)); clear b1 h1)
      | (go_at_call 24; with_reducible refine (WO.out _ _ _ B1.out).mono ?_; rintro e w2 ⟨rfl, rfl⟩)
      | (go_at_call 25; with_reducible refine (LO.out _ _ _ B1.out).mono ?_; rintro e w3 ⟨rfl, rfl⟩)
      | (go_at_call 22; with_reducible refine (Y2.out _).mono ?_; rintro e w4 hY; unfold YPost at hY; obtain ⟨g2, rfl, b2, k2, h2⟩ := hY; have B2 := Lib.hid b2; have B1' := Lib.hid (B1.out.kept h2); have H2 := Lib.hid (H1.out.trans (h2.mono H1.out.size)); have c1 := conv_byt b2; have c2 := conv_byt (B1.out.kept h2); clear b2 h2)
      | (go_at_call 20; refine (AW.out _ (HT.out.below H2.out HT.out.size)).mono ?_; rintro e w5 ⟨rfl, h5⟩; have H5 := Lib.hid (H2.out.trans (h5.mono H2.out.size)); clear h5))
    all_goals
      go_ret
      exact ⟨rfl, H5.out⟩
  · have hk0 : (IntKind.u64.wrap a1).tmod 4 = 2 := by rw [IntKind.wrap_u64, Int.tmod_eq_emod_of_nonneg (by omega)]; omega
    have Y1 : Hid (∀ w1 : World, Calls Tryd.prog 22 #[.int .u64 a, .int .i64 4] w1 (YPost w1.heap.size 4 (bys a 4) w1)) := Lib.hid (fun w1 => Bytes_ok a 4 w1 (by decide) ha)
    have WV := Lib.hid (wv_bys a 4)
    obtain ⟨bk1, bk2, bk3⟩ := back_4 a a2 ha
    have HE := Lib.hid (bys_of_mod _ a 4 bk1)
    have hmod : a % 2 ^ (8 * 4) = a % 4294967296 := rfl
    have hs : a2 = false → exv 32 64 a2 (a % 4294967296) = a % 4294967296 := fun e => by rw [e]; exact bk2
    have Y2 : Hid (∀ w1 : World, Calls Tryd.prog 22 #[.int .u64 (((exv 32 64 a2 (a % 4294967296) : Nat)) : Int), .int .i64 4] w1 (YPost w1.heap.size 4 (bys (exv 32 64 a2 (a % 4294967296)) 4) w1)) := Lib.hid (fun w1 => Bytes_ok (exv 32 64 a2 (a % 4294967296)) 4 w1 (by decide) bk3)
    rw [HE.out] at Y2
    have WO := Lib.hid (fun (w1 : World) (A : Option Addr) (cap : Nat) (h : Byt w1 A 4 cap (bys a 4)) => Word_ok A 4 cap (bys a 4) w1 (by decide) h)
    have LO := Lib.hid (fun (w1 : World) (A : Option Addr) (cap : Nat) (h : Byt w1 A 4 cap (bys a 4)) => Load_4_64 A cap (bys a 4) a2 w1 h)
    rw [WV.out, hmod] at WO LO
    obtain ⟨x, ex⟩ : ∃ x, x = exv 32 64 a2 (a % 4294967296) := ⟨_, rfl⟩
    rw [← ex] at Y2 LO hs
    have hv : (a : Int) % 4294967296 = ((a % 4294967296 : Nat) : Int) := by simp
    obtain ⟨v, ev⟩ : ∃ v, v = a % 4294967296 := ⟨_, rfl⟩
    rw [← ev] at WO hv hs
    obtain ⟨L, eL⟩ : ∃ L, L = bys a 4 := ⟨_, rfl⟩
    rw [← eL] at Y1 Y2 WO LO
    have HA := Lib.hid ha
    clear bk1 bk2 bk3 hmod ex ev eL hq WV HE ha
    go_enter Tryd.func10, Tryd.ntmps10
    go_wp2_with (first
      | (go_at_call 22; with_reducible refine (Y1.out _).mono ?_; rintro e w1 hY; unfold YPost at hY; obtain ⟨g1, rfl, b1, k1, h1⟩ := hY; have B1 := Lib.hid b1; have H1 := Lib.hid (((Below.refl w.heap.size w).alloc (Nat.le_refl _) _).trans (h1.mono ((Below.refl w.heap.size w).alloc (Nat.le_refl _) _).size)); clear b1 h1)
      | (go_at_call 24; with_reducible refine (WO.out _ _ _ B1.out).mono ?_; rintro e w2 ⟨rfl, rfl⟩)
      | (go_at_call 25; with_reducible refine (LO.out _ _ _ B1.out).mono ?_; rintro e w3 ⟨rfl, rfl⟩)
      | (go_at_call 22; with_reducible refine (Y2.out _).mono ?_; rintro e w4 hY; unfold YPost at hY; obtain ⟨g2, rfl, b2, k2, h2⟩ := hY; have B2 := Lib.hid b2; have B1' := Lib.hid (B1.out.kept h2); have H2 := Lib.hid (H1.out.trans (h2.mono H1.out.size)); have c1 := conv_byt b2; have c2 := conv_byt (B1.out.kept h2); clear b2 h2)
      | (go_at_call 20; refine (AW.out _ (HT.out.below H2.out HT.out.size)).mono ?_; rintro e w5 ⟨rfl, h5⟩; have H5 := Lib.hid (H2.out.trans (h5.mono H2.out.size)); clear h5))
    all_goals
      go_ret
      exact ⟨rfl, H5.out⟩
  · have hk0 : (IntKind.u64.wrap a1).tmod 4 = 3 := by rw [IntKind.wrap_u64, Int.tmod_eq_emod_of_nonneg (by omega)]; omega
    have Y1 : Hid (∀ w1 : World, Calls Tryd.prog 22 #[.int .u64 a, .int .i64 8] w1 (YPost w1.heap.size 8 (bys a 8) w1)) := Lib.hid (fun w1 => Bytes_ok a 8 w1 (by decide) ha)
    have WV := Lib.hid (wv_bys a 8)
    obtain ⟨bk1, bk2, bk3⟩ := back_8 a a2 ha
    have hM : a % 18446744073709551616 = a := Nat.mod_eq_of_lt ha
    rw [hM] at bk1 bk2 bk3
    have HE := Lib.hid (bys_of_mod _ a 8 (bk1.trans hM.symm))
    have hmod : a % 2 ^ (8 * 8) = a := hM
    have hs : a2 = false → exv 64 64 a2 a = a := fun e => by rw [e]; exact bk2
    have Y2 : Hid (∀ w1 : World, Calls Tryd.prog 22 #[.int .u64 (((exv 64 64 a2 a : Nat)) : Int), .int .i64 8] w1 (YPost w1.heap.size 8 (bys (exv 64 64 a2 a) 8) w1)) := Lib.hid (fun w1 => Bytes_ok (exv 64 64 a2 a) 8 w1 (by decide) bk3)
    rw [HE.out] at Y2
    have WO := Lib.hid (fun (w1 : World) (A : Option Addr) (cap : Nat) (h : Byt w1 A 8 cap (bys a 8)) => Word_ok A 8 cap (bys a 8) w1 (by decide) h)
    have LO := Lib.hid (fun (w1 : World) (A : Option Addr) (cap : Nat) (h : Byt w1 A 8 cap (bys a 8)) => Load_8_64 A cap (bys a 8) a2 w1 h)
    rw [WV.out, hmod] at WO LO
    obtain ⟨x, ex⟩ : ∃ x, x = exv 64 64 a2 a := ⟨_, rfl⟩
    rw [← ex] at Y2 LO hs
    obtain ⟨L, eL⟩ : ∃ L, L = bys a 8 := ⟨_, rfl⟩
    rw [← eL] at Y1 Y2 WO LO
    have HA := Lib.hid ha
    clear bk1 bk2 bk3 hmod hM ex eL hq WV HE ha
    go_enter Tryd.func10, Tryd.ntmps10
    go_wp2_with (first
      | (go_at_call 22; with_reducible refine (Y1.out _).mono ?_; rintro e w1 hY; unfold YPost at hY; obtain ⟨g1, rfl, b1, k1, h1⟩ := hY; have B1 := Lib.hid b1; have H1 := Lib.hid (((Below.refl w.heap.size w).alloc (Nat.le_refl _) _).trans (h1.mono ((Below.refl w.heap.size w).alloc (Nat.le_refl _) _).size)); clear b1 h1)
      | (go_at_call 24; with_reducible refine (WO.out _ _ _ B1.out).mono ?_; rintro e w2 ⟨rfl, rfl⟩)
      | (go_at_call 25; with_reducible refine (LO.out _ _ _ B1.out).mono ?_; rintro e w3 ⟨rfl, rfl⟩)
      | (go_at_call 22; with_reducible refine (Y2.out _).mono ?_; rintro e w4 hY; unfold YPost at hY; obtain ⟨g2, rfl, b2, k2, h2⟩ := hY; have B2 := Lib.hid b2; have B1' := Lib.hid (B1.out.kept h2); have H2 := Lib.hid (H1.out.trans (h2.mono H1.out.size)); have c1 := conv_byt b2; have c2 := conv_byt (B1.out.kept h2); clear b2 h2)
      | (go_at_call 20; refine (AW.out _ (HT.out.below H2.out HT.out.size)).mono ?_; rintro e w5 ⟨rfl, h5⟩; have H5 := Lib.hid (H2.out.trans (h5.mono H2.out.size)); clear h5))
    all_goals
      go_ret
      exact ⟨rfl, H5.out⟩

set_option maxRecDepth 100000 in
theorem convRounds_lifted (os : Os) (started : os.Started) (H : Type) (enc : TypeId × Value → H) :
    ReturnsInHanded {} Tryd.checked os 10 .any (fun w args => (Rows.convRoundsSpec.pre enc Tryd.prog Tryd.f10 [] false w args ∧ laidMetH Tryd.prog laidP w) ∧ sizedMet enc Tryd.prog Tryd.f10 (OpenSpec.ofChange Rows.convRoundsSpec) false w args) (Rows.convRoundsSpec.post enc Tryd.prog Tryd.f10 false true false false) := by
  refine returnsInHanded_of_change_and (C := Tryd.checked) (X := fun w _ => laidMetH Tryd.prog laidP w) (fun _ _ _ hh h => h.of_heap hh) Tryd.own started (by kernel_rfl) Tryd.func10
    (ChangeSpec.witness_shaped (enc := enc) (C := Tryd.checked) (os := os) (X := fun w _ => laidMetH Tryd.prog laidP w) false (World.doorLaid Tryd.prog 2000 os) #[.int .u64 0, .int .i64 0, .bool false] 8 rfl (World.shaped_of_RefB (by kernel_rfl) (by kernel_rfl)) (by kernel_rfl) (by kernel_rfl) (by kernel_rfl) (doorP_met os _)) ?_
  intro W base args ds gs before hval0 hW _ _ hL _
  have hval : ∀ (j : Nat) t v, Tryd.f10.params[j]? = some t → args[j]? = some v → Value.okWide Tryd.prog W .any base t v := hval0
  have hW' := hW
  obtain ⟨p, q, hA0, hV, rfl, hfz, hnd⟩ := hW
  have hA : DataW.TrodAll enc Tryd.prog W 0 (fun _ => true) true Tryd.f10.params.toList args.toList ds p := hA0
  rw [Tryd.params10] at hA hval
  obtain ⟨v0, vs0, d0, ds0, p0, q0, hargs, rfl, rfl, h0, r0⟩ := trodAll_cons hA
  obtain ⟨v1, vs1, d1, ds1, p1, q1, rfl, rfl, rfl, h1, r1⟩ := trodAll_cons r0
  obtain ⟨v2, vs2, d2, ds2, p2, q2, rfl, rfl, rfl, h2, r2⟩ := trodAll_cons r1
  obtain ⟨rfl, rfl, rfl⟩ := trodAll_nil r2
  obtain rfl : args = #[v0, v1, v2] := by cases args; simp_all
  obtain ⟨rfl, rfl⟩ := trodVars_none hV
  obtain ⟨a0, rfl, rfl, rfl, w0⟩ := open_int Tryd.underlying22 (hval 0 22 v0 rfl rfl) h0
  obtain ⟨a1, rfl, rfl, rfl, w1⟩ := open_int Tryd.underlying3 (hval 1 3 v1 rfl rfl) h1
  obtain ⟨a2, rfl, rfl, rfl⟩ := open_bool Tryd.underlying4 (hval 2 4 v2 rfl rfl) h2
  clear hA0 hval0
  simp only [List.append_nil] at hW'
  refine (convRounds_walk a0 a1 a2 w0 w1 W (tb_P hL)).mono fun e W' ⟨he, hg⟩ => ?_
  subst he
  exact ⟨_, rfl, _, _, _, [], [], [], hW', (trodAll_cons_mk (shut_bool Tryd.underlying4 _) trodAll_mk0), (trodAll_cons_mk (shut_int Tryd.underlying22 w0) (trodAll_cons_mk (shut_int Tryd.underlying3 w1) (trodAll_cons_mk (shut_bool Tryd.underlying4 _) trodAll_mk0))), rfl, hg.frame _, fun h => by cases h⟩

theorem convRounds_over : Rows.convRoundsRow.holds Tryd.pinned (OpenSpec.ofChange Rows.convRoundsSpec) :=
  OpenClaim.holds_of_wide 10 Tryd.f10 rfl rfl rfl rfl rfl rfl rfl ⟨rfl, rfl, rfl, rfl, rfl⟩ rfl rfl rfl rfl rfl (by kernel_rfl) Tryd.func10 (by kernel_rfl)
    (of_decide_eq_true (by kernel_rfl)) (by unfold Func.isWrapper; first | (rw [if_pos (by decide +kernel)]; kernel_rfl) | (rw [if_neg (by decide +kernel)]; exact ⟨rfl, rfl⟩))
    (fun os started H enc _ => convRounds_lifted os started H enc)

theorem convRounds_proved : Rows.ConvRoundsCardSaid :=
  Claim7.holds_tied_plain_at .later [] [.data, .data, .data] true (true, "397b09112119fa734b71d0dfbaa52ad10e3cfe198ad17a9f7798ec029590703f") true
    convRounds_over (fun _ h => by cases h) (by kernel_rfl) (fun _ h => by cases h) convRounds_row_tie rfl ⟨rfl, rfl⟩ (by kernel_rfl) rfl
    (fun f fn hf hfn => by
      obtain rfl : f = 10 := Option.some.inj ((show Tryd.prog.funcNamed "grommet/grommetlaw06.ConvRounds" = some 10 by kernel_rfl).symm.trans hf) |>.symm
      obtain rfl : fn = Tryd.f10 := (Option.some.inj (Tryd.func10.symm.trans hfn)).symm
      exact ⟨by kernel_rfl, fun j t ht => by
        rw [Tryd.params10] at ht
        have hm : t ∈ [22, 3, 4] := by simpa using Array.mem_of_getElem? ht
        have hall : ([22, 3, 4].all fun u => !Tryd.prog.wantsStandIn u) = true := by kernel_rfl
        exact (show Tryd.prog.wantsStandIn t = false by simpa using List.all_eq_true.1 hall t hm)⟩)
    (by kernel_rfl)
#print axioms convRounds_proved
end Go.Proofs.YtmbnaejoiglckaaDoor
