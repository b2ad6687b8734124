/-
  SpaceOverlaps: the walk.
-/
import Derived.Test.YtlnffcledpccjaaUg
import Derived.BigQuiet
import Derived.OwnWalk
import Derived.WalkKit
import Derived.ProofKit
import Derived.OpenShut
import Derived.ShutString
import Derived.ChangeOld
import Derived.Below
namespace Go.Proofs.Ytlnffcledpccjaa
set_option linter.unusedVariables false
set_option linter.unusedSimpArgs false
open Go.ChangeShapes Go.WideShapes Go.ChangeAt
open Go.RowKit
set_option maxHeartbeats 4000000 in
set_option maxRecDepth 100000 in
theorem spaceOverlaps_walk (a0 : Int) (a1 : Option Addr) (len1 cap1 : Nat) (l : List Nat) (a2 a3 : Int) (w : World) (h0 : (Lit.int .u8 a0).wf = true) (hb1 : Byt w a1 len1 cap1 l) (h2 : (Lit.int .u16 a2).wf = true) (h3 : (Lit.int .u16 a3).wf = true) :
    Calls Try.prog 8 #[.int .u8 a0, .slice a1 len1 cap1, .int .u16 a2, .int .u16 a3] w fun e w' => e = .returned (.bool true) ∧ Below w.heap.size w w' := by
  have ha := bounds_u8 h0
  have b2 := bounds_u16 h2
  have b3 := bounds_u16 h3
  have hlc1 : len1 ≤ cap1 := hb1.2.2.1
  have hcap1 : cap1 ≤ 9223372036854775807 := hb1.2.2.2.1
  have HB := Lib.hid hb1
  clear hb1 h0 h2 h3
  obtain ⟨fr, rfl⟩ := Int.eq_ofNat_of_zero_le (show 0 ≤ a2 by omega)
  obtain ⟨to, rfl⟩ := Int.eq_ofNat_of_zero_le (show 0 ≤ a3 by omega)
  by_cases hbig : 400 < len1
  · go_enter Try.func8, Try.ntmps8
    go_wp2_with (go_at_call 22; refine (awake8_any _).mono ?_; rintro e w1 ⟨rfl, hb1⟩; have HB1 := Lib.hid hb1; clear hb1)
    go_ret
    exact ⟨rfl, HB1.out⟩
  · have hl1 : len1 ≤ 400 := by omega
    obtain ⟨f, hf⟩ : ∃ f : Int, f = a0 % 5 := ⟨_, rfl⟩
    obtain ⟨n, hn⟩ : ∃ n : Nat, (n : Int) = 1 + f := ⟨(1 + f).toNat, by omega⟩
    have HPn := Lib.hid (fun w => Pager_n f n (by omega) w)
    rw [hf] at HPn
    clear hbig hn hf
    go_enter Try.func8, Try.ntmps8
    go_wp2_with fail
    refine (awake8_any _).mono ?_
    rintro e w1 ⟨rfl, hb1⟩
    have HW1 := Lib.hid hb1
    clear hb1
    go_wp2_with fail
    refine (HPn.out w1).mono ?_
    rintro e w4 ⟨A, bb, rm, gm, rfl, hS⟩
    have HS4 := Lib.hid hS
    clear hS
    go_wp2_with fail
    refine (SpNew_ok A.p 3 2 2 true w4 (by omega) (by omega) (by omega)).mono ?_
    rintro e w5 ⟨rfl, rfl⟩
    have HS5 := Lib.hid (HS4.out.alloc (.cells (mmC A.p 3 2 2 2 true) 117))
    have HM5 := Lib.hid (Blk.new w4 117 (mmC A.p 3 2 2 2 true))
    generalize (w4.alloc (.cells (mmC A.p 3 2 2 2 true) 117)) = w5 at HS5 HM5 ⊢
    generalize w4.heap.size = M at HS5 HM5 ⊢
    go_wp2_with fail
    have hBx : ∀ g, a1.map (·.block) = some g → 0 < len1 → ((False ∨ g = M) ∨ g < w1.heap.size) := fun g e h0 => by
      obtain ⟨g', off, e', hlt, _⟩ := HB.out.2.2.2.2 h0
      rw [e'] at e
      simp at e
      have := HW1.out.size
      exact .inr (by omega)
    have hby5 : Byt w5 a1 len1 cap1 l := HB.out.kept (HW1.out.trans (HS5.out.bel.mono HW1.out.size))
    refine (Store_ok HS5.out M 3 2 2 2 fr 0 len1 cap1 true a1 l HM5.out (.inr rfl) hby5 hBx (by omega) (by omega) (by omega) (by omega) (by omega) (by omega) (by omega) (by omega)).mono ?_
    rintro e w6 h6
    unfold StP at h6
    obtain ⟨rfl, hS6, hK6⟩ := h6
    have HM6 : Hid (Blk w6 M 117 (mmC A.p 3 2 2 2 true)) := Lib.hid (((KX.fr hK6).block M HM5.out.lt (fun h => h.2 (.inr rfl))).trans HM5.out)
    have HS6 := Lib.hid hS6
    clear hS6 hK6 hBx hby5
    go_wp2_with fail
    refine (MCopy_ok HS6.out M M 3 3 2 2 2 2 2 2 to fr len1 true true HM6.out HM6.out (.inr rfl) (.inr rfl) (by omega) (by omega) (by omega) (by omega) (by omega) (by omega) (by omega) (by omega) (by omega) (by omega) (by omega)).mono ?_
    rintro e w7 h7
    unfold StP at h7
    obtain ⟨rfl, hS7, hK7⟩ := h7
    have HM7 : Hid (Blk w7 M 117 (mmC A.p 3 2 2 2 true)) := Lib.hid (((KX.fr hK7).block M HM6.out.lt (fun h => h.2 (.inr rfl))).trans HM6.out)
    have HS7 := Lib.hid hS7
    clear hS7 hK7
    go_wp2_with fail
    refine (Load_ok HS7.out M 3 2 2 2 to 0 len1 true HM7.out (.inr rfl) (by omega) (by omega) (by omega) (by omega) (by omega) (by omega) (by omega) (by omega)).mono ?_
    rintro e w8 hP
    unfold LdP at hP
    obtain ⟨g, rfl, _, hy, hS8, _⟩ := hP
    have hll : l.length = len1 := HB.out.1
    have hz : ∀ x : Nat × Nat, ((fun _ => zs 64 : Nat × Nat → List Nat) x).length = 64 := fun x => by show (zs 64).length = 64; decide
    have e6 : mbs (wrm (fun _ => zs 64) 3 64 (fr + 0) l len1) 3 64 fr len1 = l := mbs_wrm hz (by decide) hll
    rw [e6] at hy
    have e7 : mbs (wrm (wrm (fun _ => zs 64) 3 64 (fr + 0) l len1) 3 64 to l len1) 3 64 (to + 0) len1 = l := mbs_wrm (wrm_len hz) (by decide) hll
    rw [e7] at hy
    have hcv := conv_byt hy
    have hcw := conv_byt (HB.out.kept (HW1.out.trans (hS8.bel.mono HW1.out.size)))
    have hse : ((str l).toList == (str l).toList) = true := by simp
    have HE := Lib.hid (HW1.out.trans (hS8.bel.mono HW1.out.size))
    clear hy hS8 e6 e7 hz hll
    go_wp2_with fail
    go_ret
    exact ⟨rfl, HE.out⟩

end Go.Proofs.Ytlnffcledpccjaa
