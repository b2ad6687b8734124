/-
  Called with any bytes, any number from which on reads fail, and any number of bits, grommetlaw02.FlashFails returns true and leaves its arguments as they were; no condition.
-/
import Derived.Test.YtchdcimmbmphnaaFj
import Derived.WalkKit
import Derived.ProofKit
import Derived.OpenShut
import Derived.ShutString
import Derived.ChangeOld
import Derived.Below
namespace Go.Proofs.Ytchdcimmbmphnaa
open Go.ChangeShapes Go.WideShapes Go.ChangeAt Go.RowKit
open Go.ChangeMaps (open_string shut_string)
set_option linter.unusedVariables false


theorem uns_codes (R : List Nat) (k : Int) : (Leb.uns R k).2.2 = 0 ∨ (Leb.uns R k).2.2 = 1 ∨ (Leb.uns R k).2.2 = 3 ∨ (Leb.uns R k).2.2 = 4 := by
  unfold Leb.uns
  split
  · exact .inr (.inl rfl)
  · split
    · split
      · exact .inl rfl
      · exact .inr (.inr (.inr rfl))
    · rename_i h
      rcases rdE_three k.toNat R 0 with e | e | e
      · exact absurd e h
      · exact .inr (.inr (.inl e))
      · exact .inr (.inr (.inr e))
theorem uns_pos (R : List Nat) (k : Int) (h : (Leb.uns R k).2.2 = 0) : 0 < (Leb.uns R k).2.1 := by
  unfold Leb.uns at h ⊢
  split at h
  · simp at h
  · rename_i hb
    rw [if_neg hb]
    split at h
    · rename_i h0
      rw [if_pos h0]
      split at h
      · rename_i hv
        rw [if_pos hv]
        have := Leb.rdE_size k.toNat R 0 h0
        show 0 < (Leb.rdE _ _ _).1
        omega
      · simp at h
    · rename_i h0; exact absurd h h0
/-- what is known at a round's head -/
structure FRel (w : World) (f g c N : Nat) (l : List Nat) (r : Nat) (fa : Int) (a k : Nat) (wr : World) : Prop where
  st : St wr f g c N l r fa 0 N a
  bel : Below w.heap.size w wr
  rk : r ≤ 11 * k
  qf : w.heap.size ≤ f
  qc : w.heap.size ≤ c
theorem FRel.to {w wr w2 : World} {f g c N r fa a k r2 a2 k2} {l : List Nat} (q : FRel w f g c N l r fa a k wr) (h : Fr (FC f c) wr w2) (s : St w2 f g c N l r2 fa 0 N a2) (hr : r2 ≤ 11 * k2) : FRel w f g c N l r2 fa a2 k2 w2 :=
  ⟨s, h.below q.bel q.bel.size (fun i hi => by
    have := q.qf
    have := q.qc
    rcases hi with e | e <;> omega), hr, q.qf, q.qc⟩
set_option maxHeartbeats 2000000 in
set_option maxRecDepth 100000 in
theorem flashFails_walk (a0 : Option Addr) (len0 cap0 : Nat) (z0 : List Int) (a1 : Int) (a2 : Int) (w : World) (w0 : IsRow .u8 w a0 len0 cap0 z0) (w1 : (Lit.int .u8 a1).wf = true) (w2 : (Lit.int .i64 a2).wf = true) :
    Calls Try.prog 10 #[.slice a0 len0 cap0, .int .u8 a1, .int .i64 a2] w fun e w' => e = .returned (.bool true) ∧ Below w.heap.size w w' := by
  obtain ⟨l, hb⟩ := byt_of_row w0
  have hcap : cap0 ≤ 9223372036854775807 := hb.2.2.2.1
  have hlc : len0 ≤ cap0 := hb.2.2.1
  have hbd := bounds_u8 w1
  obtain ⟨hfa0, hfa1⟩ := hbd
  have HB := Lib.hid hb
  clear w0 w1 w2 hb
  by_cases hbig : 100 < len0
  · go_enter Try.func10, Try.ntmps10
    go_wp2_with (go_at_call 25; refine (awake2_any _).mono ?_; rintro e w2 ⟨rfl, hbel⟩; have hB := Lib.hid hbel; clear hbel)
    go_ret
    exact ⟨rfl, hB.out⟩
  · have h1 : len0 ≤ 100 := by omega
    clear hbig
    go_enter Try.func10, Try.ntmps10
    go_wp2_with fail
    refine (awake2_any _).mono ?_
    rintro e w2 ⟨rfl, hbel2⟩
    have B2 := Lib.hid hbel2
    clear hbel2
    go_wp2_with fail
    refine (New_any _ _ _ _ _ (HB.out.kept B2.out) (by omega)).mono ?_
    rintro e w3 ⟨f, g, rfl, hfl, hbel3, hf, hg⟩
    have HFl := Lib.hid hfl
    have B3 := Lib.hid hbel3
    clear hfl hbel3
    go_wp2_with fail
    refine (FailAt_any w3 f g len0 l 0 (-1) a1 HFl.out).mono ?_
    rintro e w4 ⟨rfl, hfl4, hfr4⟩
    have HFl4 := Lib.hid hfl4
    have HFr4 := Lib.hid hfr4
    clear hfl4 hfr4
    go_wp2_with fail
    refine (Cursor_ok w4 f g len0 l 0 a1 0 len0 HFl4.out (by omega) (by omega)).mono ?_
    rintro e w5 ⟨c, rfl, hst, hc, hbel5⟩
    have HR0 : Hid (FRel w f g c len0 l 0 a1 0 0 w5) := Lib.hid (by
      have q2 := B2.out.size
      have q3 := B3.out.size
      have q4 := HFr4.out.size
      have b3 := B2.out.trans (B3.out.mono q2)
      have b4 : Below w.heap.size w w4 := HFr4.out.below b3 b3.size (fun i hi => by omega)
      exact ⟨hst, b4.trans (hbel5.mono b4.size), by omega, by omega, by omega⟩)
    clear hst hbel5 hc hf hg
    go_wp2_with fail
    go_loopw [11] (fun i wr => ∃ k r a : Nat, k ≤ 40 ∧ r ≤ 11 * k ∧ a ≤ len0 ∧ i = .int .i64 k ∧ Hid (FRel w f g c len0 l r a1 a k wr)) (fun i _ => 40 - (intOf i).toNat)
    case atStart => exact ⟨0, 0, 0, by omega, by omega, by omega, rfl, HR0⟩
    case round =>
      obtain ⟨k, r, a, hk, hrk, haN, rfl, HR⟩ := hrel
      by_cases hlt : k < 40
      · go_wp2_with fail
        refine (At_any wr c f 0 len0 a HR.out.st.cu).mono ?_
        rintro e w6 ⟨rfl, rfl⟩
        go_wp2_with fail
        refine (cUnsigned wr f g c len0 l r a1 0 len0 a a2 HR.out.st (by omega)).mono ?_
        rintro e w7 ⟨x, y, r', a', rfl, hst7, hfr7, hr1, hr2, hcase⟩
        have HS7 := Lib.hid hst7
        have HQ7 := Lib.hid (HR.out.to (k2 := k + 1) hfr7 hst7 (by omega))
        clear hst7 hfr7
        rcases hcase with ⟨rfl, rfl, rfl, _, hfr⟩ | ⟨hx, hy, ha⟩
        · have haa : ((a' : Int) != (a' : Int)) = false := by simp
          go_wp2_with fail
          refine (At_any w7 c f 0 len0 a' HS7.out.cu).mono ?_
          rintro e w8 ⟨rfl, rfl⟩
          by_cases hE : a' < len0
          · go_wp2_with fail
            refine (Byte_fail w7 f g c len0 l r' a1 0 len0 a' HS7.out hE (by omega) hfa0 (by omega)).mono ?_
            rintro e w8 ⟨rfl, hst8, hfr8⟩
            have HS8 := Lib.hid hst8
            have HQ8 := Lib.hid (HQ7.out.to (k2 := k + 2) hfr8 hst8 (by omega))
            clear hst8 hfr8
            go_wp2_with fail
            refine (FByte_fail w8 f g len0 l (r' + 1) a1 HS8.out.fl (by omega) (by omega) hfa0 (by omega)).mono ?_
            rintro e w9 ⟨rfl, hfl9, hfr9⟩
            have HF9 := Lib.hid hfl9
            have HB9 : Hid (Below w.heap.size w w9) := Lib.hid (hfr9.below HQ8.out.bel HQ8.out.bel.size (fun i hi => by have := HQ8.out.qf; omega))
            clear hfl9 hfr9
            go_wp2_with fail
            refine (Reads_any w9 f g len0 l (r' + 1 + 1) a1 HF9.out (by omega)).mono ?_
            rintro e w10 ⟨rfl, rfl⟩
            go_wp2_with fail
            go_ret
            exact ⟨rfl, HB9.out⟩
          · go_wp2_with fail
            refine (Byte_bad w7 f g c len0 l r' a1 0 len0 a' HS7.out (by omega)).mono ?_
            rintro e w8 ⟨rfl, k8, rfl⟩
            by_cases hN0 : 0 < len0
            · go_wp2_with fail
              refine (FByte_fail (w7.drewN k8) f g len0 l r' a1 (HS7.out.drewN k8).fl hN0 (by omega) hfa0 (by omega)).mono ?_
              rintro e w9 ⟨rfl, hfl9, hfr9⟩
              have HF9 := Lib.hid hfl9
              have HB9 : Hid (Below w.heap.size w w9) := Lib.hid ((hfr9.undrewN).below HQ7.out.bel HQ7.out.bel.size (fun i hi => by have := HQ7.out.qf; omega))
              clear hfl9 hfr9
              go_wp2_with fail
              refine (Reads_any w9 f g len0 l (r' + 1) a1 HF9.out (by omega)).mono ?_
              rintro e w10 ⟨rfl, rfl⟩
              go_wp2_with fail
              go_ret
              exact ⟨rfl, HB9.out⟩
            · obtain rfl : len0 = 0 := by omega
              go_wp2_with fail
              refine (FByte_none (w7.drewN k8) f g l r' a1 (HS7.out.drewN k8).fl).mono ?_
              rintro e w9 ⟨rfl, rfl⟩
              go_wp2_with fail
              refine (Reads_any (w7.drewN k8) f g 0 l r' a1 (HS7.out.drewN k8).fl (by omega)).mono ?_
              rintro e w10 ⟨rfl, rfl⟩
              go_wp2_with fail
              go_ret
              exact ⟨rfl, below_drewN HQ7.out.bel _⟩
        · have hcodes := uns_codes ((l.drop a).take (len0 - a)) a2
          rw [← hy] at hcodes
          by_cases hy0 : y = 0
          · subst hy0
            have hp := uns_pos _ _ hy.symm
            have hlt2 : (a : Int) < (a' : Int) := by omega
            have haN2 : a' ≤ len0 := HS7.out.h2
            clear hx hy ha hp hcodes
            go_wp2_with fail
            refine (At_any w7 c f 0 len0 a' HS7.out.cu).mono ?_
            rintro e w8 ⟨rfl, rfl⟩
            go_wp2_with fail
            go_roundw
            case rel => exact ⟨k + 1, r', a', by omega, by omega, haN2, by go_num, HQ7⟩
            case measure => simp [intOf]; omega
          · have hz := uns_zero ((l.drop a).take (len0 - a)) a2 (by rw [← hy]; exact hy0)
            obtain rfl : a' = a := by omega
            have haa : ((a' : Int) != (a' : Int)) = false := by simp
            clear hx hy ha hz
            rcases hcodes with e | e | e | e
            · exact absurd e hy0
            all_goals
              subst e
              go_wp2_with fail
              refine (At_any w7 c f 0 len0 a' HS7.out.cu).mono ?_
              rintro e w8 ⟨rfl, rfl⟩
              go_wp2_with fail
              go_ret
              exact ⟨rfl, HQ7.out.bel⟩
      · go_wp2_with fail
        go_ret
        exact ⟨rfl, HR.out.bel⟩

set_option maxRecDepth 100000 in
theorem flashFails_lifted (os : Os) (started : os.Started) (H : Type) (enc : TypeId × Value → H) :
    ReturnsInHanded {} Try.checked os 10 .any (Rows.flashFailsSpec.pre6 enc Try.prog Try.f10 Rows.flashFailsRow.domain false) (Rows.flashFailsSpec.post enc Try.prog Try.f10 false true false false) := by
  refine returnsInHanded_of_change (C := Try.checked) Try.own started (by kernel_rfl) Try.func10
    (ChangeSpec.witness6 (enc := enc) (C := Try.checked) false ⟨#[], #[.slice none 0 0, .int .u8 0, .int .i64 0], []⟩ 8 (by kernel_rfl) (by kernel_rfl) (by kernel_rfl) (by kernel_rfl)) ?_
  intro W base args ds gs before hval0 hW hcnd _
  have hval : ∀ (j : Nat) t v, Try.f10.params[j]? = some t → args[j]? = some v → Value.okWide Try.prog W .any base t v := hval0
  have hW' := hW
  obtain ⟨p, q, hA0, hV, rfl, hfz, hnd⟩ := hW
  have hA : DataW.TrodAll enc Try.prog W 0 (fun _ => true) true Try.f10.params.toList args.toList ds p := hA0
  rw [Try.params10] at hA hval
  obtain ⟨v0, vs0, d0, ds0, p0, q0, hargs, rfl, rfl, h0, r0⟩ := trodAll_cons hA
  obtain ⟨v1, vs1, d1, ds1, p1, q1, rfl, rfl, rfl, h1, r1⟩ := trodAll_cons r0
  obtain ⟨v2, vs2, d2, ds2, p2, q2, rfl, rfl, rfl, h2, r2⟩ := trodAll_cons r1
  obtain ⟨rfl, rfl, rfl⟩ := trodAll_nil r2
  obtain rfl : args = #[v0, v1, v2] := by cases args; simp_all
  obtain ⟨rfl, rfl⟩ := trodVars_none hV
  obtain ⟨a0, len0, cap0, rfl⟩ := okWide_slice Try.underlying22 (hval 0 22 v0 rfl rfl)
  have k0 := h0
  have lt0 : ∀ x ∈ p0, x.block < W.heap.size := by obtain ⟨m, hm⟩ := k0; exact DataW.trod_lt m _ _ _ hm
  obtain ⟨z0, w0⟩ : ∃ zs, IsRow .u8 W a0 len0 cap0 zs := by
    obtain ⟨fuel, hf⟩ := h0
    rcases open_ints Try.underlying22 Try.underlying5 (by kernel_rfl) hf with ⟨hcs, _⟩ | ⟨x, l, c, zs, hcs, _, hl, hm, hz, _, hcell, hwz⟩
    · simp [Value.cells] at hcs
      obtain ⟨rfl, rfl, rfl⟩ := hcs
      exact ⟨[], .inl ⟨rfl, rfl, rfl, rfl⟩⟩
    · simp [Value.cells] at hcs
      obtain ⟨rfl, rfl, rfl⟩ := hcs
      exact ⟨zs, .inr ⟨_, rfl, hl, hm, by simpa using hz, hcell, hwz⟩⟩
  obtain ⟨a1, rfl, rfl, rfl, w1⟩ := open_int Try.underlying5 (hval 1 5 v1 rfl rfl) h1
  obtain ⟨a2, rfl, rfl, rfl, w2⟩ := open_int Try.underlying3 (hval 2 3 v2 rfl rfl) h2
  clear hA0 hval0
  refine (flashFails_walk a0 len0 cap0 z0 a1 a2 W w0 w1 w2).mono fun e W' ⟨he, bel⟩ => ?_
  subst he
  exact ⟨_, rfl, _, _, _, [], _, [], hW', trodAll_mk1 (shut_bool Try.underlying4 _), (trodAll_cons_mk (Below.trod Try.laidOut (by kernel_rfl) (of_decide_eq_true (by kernel_rfl)) k0 bel lt0) (trodAll_cons_mk (shut_int Try.underlying5 w1) (trodAll_cons_mk (shut_int Try.underlying3 w2) trodAll_mk0))), rfl, bel.frame _, fun h => by cases h⟩

theorem flashFails_over : Rows.flashFailsRow.holds Try.pinned (OpenSpec.ofChange Rows.flashFailsSpec) :=
  OpenClaim.holds_of_wide 10 Try.f10 rfl rfl rfl rfl rfl rfl rfl ⟨rfl, rfl, rfl, rfl, rfl⟩ rfl rfl rfl rfl rfl (by kernel_rfl) Try.func10 (by kernel_rfl)
    (of_decide_eq_true (by kernel_rfl)) (by unfold Func.isWrapper; first | (rw [if_pos (by decide +kernel)]; kernel_rfl) | (rw [if_neg (by decide +kernel)]; exact ⟨rfl, rfl⟩))
    (fun os started H enc _ => flashFails_lifted os started H enc)

theorem flashFails_proved : Rows.FlashFailsSaid := flashFails_over
#print axioms flashFails_proved
end Go.Proofs.Ytchdcimmbmphnaa
