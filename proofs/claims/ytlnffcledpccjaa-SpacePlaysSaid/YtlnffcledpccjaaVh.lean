/-
  SpacePlays: the walk: the two memories made, the acts one by one.
-/
import Derived.Test.YtlnffcledpccjaaVg
import Derived.BigQuiet
import Derived.Deep.RegionHeld3
import Derived.Deep.DeepCutAuto
import Derived.Deep.CutBlock
import Derived.OwnWalk
import Derived.WalkKit
import Derived.ProofKit
import Derived.OpenShut
import Derived.ShutString
import Derived.ChangeOld
import Derived.Below
namespace Go.Proofs.Ytlnffcledpccjaa
set_option linter.unusedVariables false
set_option linter.unusedSimpArgs false
open Go.ChangeShapes Go.WideShapes Go.ChangeAt
open Go.RowKit
theorem sp_ret {w wz : World} {t : Array Value} (h6 : t[6]? = some (.bool true)) (hb : Below w.heap.size w wz) : bodyPost Try.prog Try.f6 (fun e w' => e = .returned (.bool true) ∧ Below w.heap.size w w') .ret ⟨t, []⟩ wz := by
  have hres : Try.f6.results = #[.tmp 6] := by kernel_rfl
  refine bodyPost_ret (v := .bool true) ?_ rfl ⟨rfl, hb⟩
  simp [results, hres, Array.getD_eq_getD_getElem?, h6]
set_option maxHeartbeats 4000000 in
set_option maxRecDepth 100000 in
theorem spacePlays_walk (a0 b0 b1 : Int) (a1 : Option Addr) (len1 cap1 : Nat) (F : Nat → Sact) (w : World) (h0 : (Lit.int .u8 a0).wf = true) (h1 : (Lit.int .u8 b0).wf = true) (h2 : (Lit.int .u8 b1).wf = true) (hF : SRow w a1 len1 cap1 F) :
    Calls Try.prog 6 #[.int .u8 a0, .agg #[.int .u8 b0, .int .u8 b1], .slice a1 len1 cap1] w fun e w' => e = .returned (.bool true) ∧ Below w.heap.size w w' := by
  have ha := bounds_u8 h0
  have hb0 := bounds_u8 h1
  have hb1 := bounds_u8 h2
  have hlc1 : len1 ≤ cap1 := hF.1
  have hcap1 : cap1 ≤ 9223372036854775807 := by have := hF.2.1; unfold maxLen at this; omega
  have HF := Lib.hid hF
  clear hF h0 h1 h2
  by_cases hbig : 30 < len1
  · go_enter Try.func6, Try.ntmps6
    go_wp2_with (go_at_call 22; refine (awake8_any _).mono ?_; rintro e w1 ⟨rfl, hb1⟩; have HB1 := Lib.hid hb1; clear hb1)
    go_ret
    exact ⟨rfl, ((Below.refl _ _).alloc (Nat.le_refl _) _).trans (HB1.out.mono (by simp))⟩
  · have hl1 : len1 ≤ 30 := by omega
    obtain ⟨p0, hp0⟩ : ∃ p : Nat, (p : Int) = b0 % 4 := ⟨(b0 % 4).toNat, by omega⟩
    obtain ⟨p1, hp1⟩ : ∃ p : Nat, (p : Int) = b1 % 4 := ⟨(b1 % 4).toNat, by omega⟩
    obtain ⟨f, hf⟩ : ∃ f : Int, f = a0 % 8 := ⟨_, rfl⟩
    obtain ⟨n, hn⟩ : ∃ n : Nat, (n : Int) = 1 + f := ⟨(1 + f).toNat, by omega⟩
    have HPn := Lib.hid (fun w => Pager_n f n (by omega) w)
    rw [hf] at HPn
    clear hbig hn hf
    go_enter Try.func6, Try.ntmps6
    go_wp2_with fail
    refine (awake8_any _).mono ?_
    rintro e w1 ⟨rfl, hb1⟩
    have HW1 := Lib.hid hb1
    clear hb1
    go_wp2_with fail
    refine (HPn.out w1).mono ?_
    rintro e w4 ⟨A, bb, rm, gm, rfl, hS⟩
    have HS4 := Lib.hid hS
    clear hS
    go_wp2_with fail
    obtain ⟨pp, hpp⟩ : ∃ pp : Nat → Nat, ∀ i, pp i = if i = 0 then p0 else p1 := ⟨_, fun _ => rfl⟩
    have HPP := Lib.hid (show pp 0 = p0 ∧ pp 1 = p1 from ⟨hpp 0, hpp 1⟩)
    have HPL : Hid (∀ i, pp i ≤ 3) := Lib.hid (fun i => by rw [hpp i]; split <;> omega)
    have HP0 := Lib.hid hp0
    have HP1 := Lib.hid hp1
    clear hpp hp0 hp1
    have HAl : Hid (IniR w1 A bb rm gm n w4.heap.size (w4.heap.size + 1) pp 0 (fun _ => 0) ((w4.alloc (.cells #[.pointer none, .pointer none] 49)).alloc (.cells #[.int .i64 0, .int .i64 0, .slice none 0 0, .int .i64 0, .int .i64 0, .slice none 0 0] 53))) := Lib.hid (by
      have h2 := (Blk.new w4 49 #[.pointer none, .pointer none]).alloc (.cells #[.int .i64 0, .int .i64 0, .slice none 0 0, .int .i64 0, .int .i64 0, .slice none 0 0] 53)
      have h3 := Blk.new (w4.alloc (.cells #[.pointer none, .pointer none] 49)) 53 #[.int .i64 0, .int .i64 0, .slice none 0 0, .int .i64 0, .int .i64 0, .slice none 0 0]
      rw [World.size_alloc] at h3
      refine ⟨HS4.out.ext (((Fr.refl (fun _ => False) w4).alloc _).alloc _) (fun _ q => q.elim) (fun q hq => .inr ?_), h2, h3, fun i q => absurd q (by omega), fun q => absurd q (by omega)⟩
      rw [World.size_alloc, World.size_alloc]
      rcases hq with e | e | ⟨i, hi, _⟩
      · omega
      · omega
      · omega)
    go_loopw [10, 11, 12, 13] (fun v10 v11 v12 v13 wr => ∃ (j : Nat) (Mb : Nat → Nat), j ≤ 2 ∧ v10 = .int .i64 j ∧ Hid (IniR w1 A bb rm gm n w4.heap.size (w4.heap.size + 1) pp j Mb wr)) (fun v10 _ _ _ _ => 2 - (intOf v10).toNat)
    case atStart => exact ⟨0, _, by omega, rfl, HAl⟩
    case round =>
      obtain ⟨j, Mb, hj, rfl, HI⟩ := hrel
      obtain ⟨L, hL⟩ : ∃ L, L = w4.heap.size := ⟨_, rfl⟩
      rw [← hL] at HI ⊢
      have HLw := Lib.hid hL
      clear hL HAl
      by_cases hlt : j < 2
      · obtain ⟨bj, hbj⟩ : ∃ bj : Int, bj = if j = 0 then b0 else b1 := ⟨_, rfl⟩
        have y0 : wr.cell? ⟨w.heap.size, j, none⟩ = some (.int .u8 bj) := by
          have hb := HW1.out.trans (HI.out.s1.bel.mono HW1.out.size)
          rw [hb.cell (p := ⟨w.heap.size, j, none⟩) (by simp), (Blk.new w 45 #[.int .u8 b0, .int .u8 b1]).cell j, hbj]
          rcases lt2 hlt with rfl | rfl <;> rfl
        have hbj0 : 0 ≤ bj ∧ bj ≤ 255 := by split at hbj <;> omega
        have HBJ : Hid (bj % 4 = ((pp j : Nat) : Int)) := Lib.hid (by
          have h1 := HPP.out
          rcases lt2 hlt with rfl | rfl
          · rw [hbj, h1.1, HP0.out]; rfl
          · rw [hbj, h1.2, HP1.out]; rfl)
        have hpj : pp j ≤ 3 := by have := HBJ.out; omega
        clear hbj
        go_wp2_with fail
        rw [HBJ.out]
        refine (SpNew_ok A.p j (pp j) 5 ((j : Int) == 1) wr (by omega) (by omega) (by omega)).mono ?_
        rintro e w5 ⟨rfl, rfl⟩
        have hbb : ((j : Int) == 1) = decide (j = 1) := by rcases lt2 hlt with rfl | rfl <;> rfl
        have HW := Lib.hid (Wide_ok (w := wr.alloc (.cells (mmC A.p j (pp j) 5 5 ((j : Int) == 1)) 117)) wr.heap.size A.p j (pp j) 5 5 ((j : Int) == 1) (Blk.new wr 117 _))
        have HST := Lib.hid (fun k => HI.out.step hlt ((j : Int) == 1) hbb k rfl)
        clear hbb
        go_wp2_with fail
        refine HW.out.mono ?_
        rintro e w6 ⟨rfl, k, rfl⟩
        obtain ⟨s1, s2, s3⟩ := HST.out k
        have HS3 := Lib.hid s3
        clear s3 HST HW
        generalize (wr.alloc (.cells (mmC A.p j (pp j) 5 5 ((j : Int) == 1)) 117)).drewN k = w6 at s1 s2 HS3 ⊢
        obtain ⟨w7, hw7⟩ : ∃ w7, w7 = w6.setCell ⟨L, j, none⟩ (.pointer (some ⟨wr.heap.size, 0, none⟩)) := ⟨_, rfl⟩
        obtain ⟨t1, t2, t3, t4, t5, t6, t7⟩ := HS3.out w7 hw7
        subst hw7
        have HT7 := Lib.hid t7
        clear t7 HS3
        go_wp2_with fail
        go_roundw
        case rel => exact ⟨j + 1, _, by omega, by go_num, HT7⟩
        case measure => simp [intOf]; omega
      · obtain rfl : j = 2 := by omega
        have HS0 := Lib.hid (HI.out.si HPL.out)
        clear HI HPP HP0 HP1 HPn HS4
        go_upto_block 2 with fail
        rename_i ha
        refine blk2 HS0.out (((Below.refl w.heap.size w).alloc (Nat.le_refl _) (Obj.cells #[.int .u8 b0, .int .u8 b1] 45)).trans (HW1.out.mono (by simp))) HF.out hl1 _ _ _ _ _ _ _ _ _ _ _ _ _ _ _ _ _ _ _ _ _ _ _ _ _ _ _ _ _ _ _ _ _ _ _ _ _ _ _ _ _ _ _ _ _ _ _ _ _ _ _ _ _ _ _ _ _ _ _ _ _ _ _ _ _ _ _ _ _ _ _ _ _ _ _ _ _ _ _ _ _ _ _ _ _ _ _ _ _ _ _ _ _ _ _ _ _ _ _ _ _ _ _ _ _ _ _ _ _ _ _ _ _ _ _ _ _ _ _ _ _ _ _ _ _ _ _ _ _ _ _ _ _ _ _ _ _ _ _ _ _ _ _ _ _ _ _ _ _ _ _ _ _ _ _ _ _ _ _ _ _ _ _ _ _ _ _ _ _ _ _ _ _ _ _ _ _ _ _ _ _ _ _ _ _ _ _ _ _ _ _ _ _ _ _ _ _ _ _ _ _ _ _ _ _ _ _ _ _ _ _ _ _ _ _ _ _ _ _ _ _ _ _ _ _ _ _ _ _ _ _ _ _ _ _ _ _ _ _ _ _ _ _ _ _ _ _ _ _ _ _ _ _ _ _ _ _ _ _ _ _ _ _ _ _ _ _ _ _ _ _ _ _ _ _ _ _ _ _ _ _ _ _ _ _ _ _ _ _ _ _ _ _ _ _ _ _ _ _ _ _ _ _ _ _ _ _ _ _ _ _ _ _ _ _ _ _ _ _ _ _ _ _ _ _ _ _ _ _ _ _ _ _ _ _ _ _ _ _ _ _ _ _ _ _ _ _ _ _ _ _ _ _ _ _ _ _ _ _ _ _ _ _ _ _ _ _ _ _ _ _ _ _ _ _ _ _ _ _ _ _ _ _ _ _ _ _ _ _ _ _ _ _ _ _ _ _ _ _ _ _ _ _ _ _ _ _ _ _ _ _ _ _ (fun _ _ _ _ _ _ _ _ _ _ _ _ _ _ _ _ _ _ _ _ _ _ _ _ _ _ _ _ _ _ _ _ _ _ _ _ _ _ _ _ _ _ _ _ _ _ _ _ _ _ _ _ _ _ _ _ _ _ _ _ _ _ _ _ _ _ _ _ _ _ _ _ _ _ _ _ _ _ _ _ _ _ _ _ _ _ _ _ _ _ _ _ _ _ _ _ _ _ _ _ _ _ _ _ _ _ _ _ _ _ _ _ _ _ _ _ _ _ _ _ _ _ _ _ _ _ _ _ _ _ _ _ _ _ _ _ _ _ _ _ _ _ _ _ _ _ _ _ _ _ _ _ _ _ _ _ _ _ _ _ _ _ _ _ _ _ _ _ _ _ _ _ _ _ _ _ _ _ _ _ _ _ _ _ _ _ _ _ _ _ _ _ _ _ _ _ _ _ _ _ _ _ _ _ _ _ _ _ _ _ _ _ _ _ _ _ _ _ _ _ _ _ _ _ _ _ _ _ _ _ _ _ _ _ _ _ _ _ _ _ _ _ _ _ _ _ _ _ _ _ _ _ _ _ _ _ _ _ _ _ _ _ _ _ _ _ _ _ _ _ _ _ _ _ _ _ _ _ _ _ _ _ _ _ _ _ _ _ _ _ _ _ _ _ _ _ _ _ _ _ _ _ _ _ _ _ _ _ _ _ _ _ _ _ _ _ _ _ _ _ _ _ _ _ _ _ _ _ _ _ _ _ _ _ _ _ _ _ _ _ _ _ _ _ _ _ _ _ _ _ _ _ _ _ wz hz => ?_) (fun t wz hz => ?_)
        · refine ha _ _ ?_
          clear ha
          obtain ⟨X', pg', cp', pz', cz', pn', pc', PA', Ps', hI, hE'⟩ := hz
          have HBELz := Lib.hid (((Below.refl w.heap.size w).alloc (Nat.le_refl _) (Obj.cells #[.int .u8 b0, .int .u8 b1] 45)).trans ((HW1.out.trans (hI.s1.bel.mono HW1.out.size)).mono (by simp)))
          obtain ⟨d, ad, W, g1, _⟩ := hI.s1.ex
          have HPF := Lib.hid (PFault_ok g1.lay)
          clear hI hE' g1
          go_wp2_with (go_at_call 19; refine HPF.out.mono ?_; rintro e w7 ⟨rfl, rfl⟩)
          go_ret
          exact ⟨rfl, HBELz.out⟩
        · clear ha
          obtain ⟨h6, hb⟩ := hz
          exact sp_ret h6 (((Below.refl w.heap.size w).alloc (Nat.le_refl _) (Obj.cells #[.int .u8 b0, .int .u8 b1] 45)).trans ((HW1.out.trans (hb.mono HW1.out.size)).mono (by simp)))
end Go.Proofs.Ytlnffcledpccjaa
