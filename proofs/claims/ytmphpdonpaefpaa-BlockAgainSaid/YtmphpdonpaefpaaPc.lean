/-
  Called with any bytes and any number, grommetlaw03.BlockAgain returns true; no condition.
-/
import Derived.Test.YtmphpdonpaefpaaSh
import Derived.WalkKit
import Derived.ProofKit
import Derived.OpenShut
import Derived.ShutString
import Derived.ChangeOld
import Derived.Below
namespace Go.Proofs.Ytmphpdonpaefpaa
open Go.ChangeShapes Go.WideShapes Go.ChangeAt Go.RowKit
open Go.ChangeMaps (open_string shut_string)
set_option linter.unusedVariables false


def Wrote (lt : List Nat) (d : Sd) (k : Nat) : Prop := d.n = k ∧ d.ops = 2 * k ∧ (∀ i, i < k → d.B i = some lt) ∧ ∀ i, k ≤ i → d.B i = none
theorem Wrote.next {lt : List Nat} {d : Sd} {k G : Nat} (h : Wrote lt d k) : Wrote lt ((d.op.al k G).op.wr k lt) (k + 1) := by
  obtain ⟨h1, h3, h4, h5⟩ := h
  refine ⟨by simp [Sd.al, Sd.op, Sd.wr, h1], by simp [Sd.al, Sd.op, Sd.wr, h3]; omega, fun i hi => ?_, fun i hi => ?_⟩
  · by_cases e : i = k
    · simp [Sd.wr, e]
    · simp only [Sd.wr, Sd.op, Sd.al, if_neg e]; exact h4 i (by omega)
  · simp only [Sd.wr, Sd.op, Sd.al, if_neg (show i ≠ k by omega)]; exact h5 i (by omega)
set_option maxHeartbeats 2000000 in
set_option maxRecDepth 100000 in
theorem blockAgain_walk (a0 : Option Addr) (len0 cap0 : Nat) (z0 : List Int) (a1 : Int) (w : World) (w0 : IsRow .u8 w a0 len0 cap0 z0) (w1 : (Lit.int .u8 a1).wf = true) :
    Calls Try.prog 7 #[.slice a0 len0 cap0, .int .u8 a1] w fun e w' => e = .returned (.bool true) ∧ Below w.heap.size w w' := by
  obtain ⟨l, hb⟩ := byt_of_row w0
  have hcap : cap0 ≤ 9223372036854775807 := hb.2.2.2.1
  have hlc : len0 ≤ cap0 := hb.2.2.1
  have h8 := wf_u8 w1
  have h80 := h8.1
  have h81 := h8.2
  have HB := Lib.hid hb
  clear w0 w1 hb h8
  by_cases hbig : len0 < 16
  · go_enter Try.func7, Try.ntmps7
    go_wp2_with (first
      | (go_at_call 12; refine (awake3_any _).mono ?_; rintro e w1 ⟨rfl, hb1⟩; have HB1 := Lib.hid hb1; clear hb1))
    go_ret
    exact ⟨rfl, HB1.out⟩
  · obtain ⟨c, rfl⟩ := Int.eq_ofNat_of_zero_le h80
    have hx : ∃ N : Nat, ((c : Int) % 6) = (N : Int) ∧ N < 6 := ⟨c % 6, by omega, by omega⟩
    obtain ⟨j, hj, hj6⟩ := hx
    have HJ := Lib.hid hj
    have hlen : 16 ≤ len0 := by omega
    obtain ⟨lt, hlt⟩ : ∃ lt, lt = l.take 16 := ⟨_, rfl⟩
    have HT : Hid (Byt w a0 16 cap0 lt) := Lib.hid (by rw [hlt]; exact HB.out.take 16 hlen)
    clear hj hlt HB
    go_enter Try.func7, Try.ntmps7
    go_wp2_with fail
    refine (awake3_any _).mono ?_
    rintro e w1 ⟨rfl, hb1⟩
    have HB1 := Lib.hid hb1
    clear hb1
    go_wp2_with fail
    refine (SNew_ok 16 6 _ (by omega) (by omega) (by omega)).mono ?_
    rintro e w2 ⟨s, m, rfl, h2, b2, hs, hm⟩
    have HR0 : Hid (SRel w s m 16 6 (nu 16 6) w2) := Lib.hid (SRel.new HB1.out h2 b2 hs hm)
    clear h2 b2 hs hm
    go_wp2_with fail
    go_loopw [7] (fun i wr => ∃ k : Nat, k ≤ 6 ∧ i = .int .i64 k ∧ ∃ d, Hid (SRel w s m 16 6 d wr) ∧ Hid (Wrote lt d k)) (fun i _ => 6 - (intOf i).toNat)
    case atStart => exact ⟨0, Nat.zero_le _, rfl, nu 16 6, HR0, Lib.hid ⟨rfl, rfl, fun i hi => absurd hi (Nat.not_lt_zero _), fun i _ => rfl⟩⟩
    case round =>
      obtain ⟨k, hk, rfl, d, HR, HF⟩ := hrel
      by_cases hlt : k < 6
      · go_wp2_with fail
        refine (Alloc_ok s m d wr HR.out.sto (by have := HF.out.2.1; omega) HR.out.no (by rw [HR.out.cap, HF.out.1]; exact hlt)).mono ?_
        rintro e w3 ⟨L, G, rfl, hL, hG, h3, f3⟩
        obtain rfl := Low_uniq hL (k := k) (HF.out.2.2.2 k (Nat.le_refl _)) (fun i hi => by show (d.B i).isSome = true; rw [HF.out.2.2.1 i hi]; rfl)
        have HR3 := Lib.hid (HR.out.al hG h3 f3)
        clear hL h3 f3
        go_wp2_with fail
        refine (Write_ok2 s m (d.op.al L G) L a0 16 cap0 lt w3 HR3.out.sto HR3.out.size (by simp [Sd.al]) (HT.out.kept HR3.out.bel) (by show d.ops + 1 < _; have := HF.out.2.1; omega) HR3.out.no).mono ?_
        rintro e w4 ⟨rfl, h4, f4⟩
        have HR4 := Lib.hid (HR3.out.wri (j := L) (by simp [Sd.al]) h4 f4)
        have HF4 := Lib.hid (HF.out.next (G := G))
        clear h4 f4
        go_wp2_with fail
        go_roundw
        case rel => exact ⟨L + 1, by omega, by go_num, _, HR4, HF4⟩
        case measure => simp [intOf]; omega
      · obtain rfl : k = 6 := by omega
        have hops : d.ops = 12 := HF.out.2.1
        have HO := Lib.hid hops
        clear hops
        go_wp2_with fail
        rw [HJ.out]
        refine (Free_ok s m d j wr HR.out.sto (by rw [HF.out.2.2.1 j hj6]; rfl) (by rw [HO.out]; decide) HR.out.no).mono ?_
        rintro e w3 ⟨rfl, h3, f3⟩
        have HR3 := Lib.hid (HR.out.fre h3 f3)
        clear h3 f3
        go_wp2_with fail
        refine (Read_no s m (d.op.fr j) j w3 HR3.out.sto (WalkArith.wf_i64 (by omega)) (by rw [Sd.f_nat]; simp [Sd.fr])).mono ?_
        rintro e w3' ⟨rfl, rfl⟩
        go_wp2_with fail
        refine (Alloc_ok s m (d.op.fr j) w3 HR3.out.sto (by show d.ops + 1 < _; rw [HO.out]; decide) HR3.out.no (by show d.n - 1 < d.cap; rw [HF.out.1, HR.out.cap]; decide)).mono ?_
        rintro e w4 ⟨L, G, rfl, hL, hG, h4, f4⟩
        obtain rfl := Low_uniq hL (k := j) (by simp [Sd.fr, Sd.op]) (fun i hi => by simp only [Sd.fr, Sd.op, if_neg (show i ≠ j by omega)]; rw [HF.out.2.2.1 i (by omega)]; rfl)
        have HR4 := Lib.hid (HR3.out.al hG h4 f4)
        clear hL h4 f4
        go_wp2_with fail
        refine (Read_ok2 s m 16 ((d.op.fr L).op.al L G) L (zs 16) w4 HR4.out.sto HR4.out.size (by simp only [Sd.al, if_pos]; rw [show ((d.op.fr L).op).size = 16 from HR.out.size]) (by show d.ops + 1 + 1 < _; rw [HO.out]; decide) HR4.out.no).mono ?_
        rintro e w5 ⟨b, rfl, hbb, hby, hbl, h5, f5⟩
        have HR5 := Lib.hid (HR4.out.opd h5 f5)
        have HY := Lib.hid hby
        clear h5 f5 hby hbl hbb
        go_wp2_with fail
        go_loop [16] (fun i => ∃ k : Nat, k ≤ 16 ∧ i = .int .i64 k) (fun i => 16 - (intOf i).toNat)
        case atStart => exact ⟨0, Nat.zero_le _, rfl⟩
        case round =>
          obtain ⟨k, hk, rfl⟩ := hrel
          by_cases hlt : k < 16
          · obtain ⟨b', off', e', _, hcell⟩ := HY.out.2.2.2.2 (by omega)
            injection e' with e'
            injection e' with e1 e2
            subst e1
            subst e2
            have hc := hcell k hlt
            rw [Nat.zero_add, show (zs 16).getD k 0 = 0 from by unfold zs; rw [List.getD_eq_getElem?_getD, List.getElem?_replicate]; split <;> rfl] at hc
            have hc' : w5.cell? ⟨b, k, none⟩ = some (.int .u8 0) := hc
            clear hcell hc
            go_wp2_with fail
            go_round
            case rel => exact ⟨k + 1, by omega, by go_num⟩
            case measure => simp [intOf]; omega
          · have hx : ∃ q : Nat, (((L : Int) + 1) % 6) = (q : Int) ∧ q < 6 ∧ q ≠ L := ⟨(L + 1) % 6, by omega, by omega, by omega⟩
            obtain ⟨q, hq, hq6, hqL⟩ := hx
            have HQ := Lib.hid hq
            clear hq
            go_wp2_with fail
            rw [HQ.out]
            refine (Read_ok2 s m 16 ((d.op.fr L).op.al L G).op q lt w5 HR5.out.sto HR5.out.size (by simp only [Sd.op, Sd.al, Sd.fr, if_neg hqL]; exact HF.out.2.2.1 q hq6) (by show d.ops + 1 + 1 + 1 < _; rw [HO.out]; decide) HR5.out.no).mono ?_
            rintro e w6 ⟨b6, rfl, hbb, hby, hbl, h6, f6⟩
            have HR6 := Lib.hid (HR5.out.opd h6 f6)
            have hc1 : ∀ n, (convert 37 9 (.slice (some ⟨b6, 0, none⟩) 16 16)).run Try.prog (w6.drewN n) = .ok (.string (str lt)) (w6.drewN n) := fun n => conv_byt (hby.drewN n)
            have hc2 : ∀ n, (convert 37 9 (.slice a0 16 cap0)).run Try.prog (w6.drewN n) = .ok (.string (str lt)) (w6.drewN n) := fun n => conv_byt ((HT.out.kept HR6.out.bel).drewN n)
            have heq : ((L : Int) == (L : Int)) = true := by simp
            have hse : ((str lt).toList == (str lt).toList) = true := by simp
            clear h6 f6 hby hbl hbb
            go_wp2_with fail
            go_quiet (fail)
            go_wp2
            go_ret
            exact ⟨rfl, (HR6.out.drewN _).bel⟩

set_option maxRecDepth 100000 in
theorem blockAgain_lifted (os : Os) (started : os.Started) (H : Type) (enc : TypeId × Value → H) :
    ReturnsInHanded {} Try.checked os 7 .any (Rows.blockAgainSpec.pre6 enc Try.prog Try.f7 Rows.blockAgainRow.domain false) (Rows.blockAgainSpec.post enc Try.prog Try.f7 false true false false) := by
  refine returnsInHanded_of_change (C := Try.checked) Try.own started (by kernel_rfl) Try.func7
    (ChangeSpec.witness6 (enc := enc) (C := Try.checked) false ⟨#[], #[.slice none 0 0, .int .u8 0], []⟩ 8 (by kernel_rfl) (by kernel_rfl) (by kernel_rfl) (by kernel_rfl)) ?_
  intro W base args ds gs before hval0 hW hcnd _
  have hval : ∀ (j : Nat) t v, Try.f7.params[j]? = some t → args[j]? = some v → Value.okWide Try.prog W .any base t v := hval0
  have hW' := hW
  obtain ⟨p, q, hA0, hV, rfl, hfz, hnd⟩ := hW
  have hA : DataW.TrodAll enc Try.prog W 0 (fun _ => true) true Try.f7.params.toList args.toList ds p := hA0
  rw [Try.params7] at hA hval
  obtain ⟨v0, vs0, d0, ds0, p0, q0, hargs, rfl, rfl, h0, r0⟩ := trodAll_cons hA
  obtain ⟨v1, vs1, d1, ds1, p1, q1, rfl, rfl, rfl, h1, r1⟩ := trodAll_cons r0
  obtain ⟨rfl, rfl, rfl⟩ := trodAll_nil r1
  obtain rfl : args = #[v0, v1] := by cases args; simp_all
  obtain ⟨rfl, rfl⟩ := trodVars_none hV
  obtain ⟨a0, len0, cap0, rfl⟩ := okWide_slice Try.underlying37 (hval 0 37 v0 rfl rfl)
  have k0 := h0
  have lt0 : ∀ x ∈ p0, x.block < W.heap.size := by obtain ⟨m, hm⟩ := k0; exact DataW.trod_lt m _ _ _ hm
  obtain ⟨z0, w0⟩ : ∃ zs, IsRow .u8 W a0 len0 cap0 zs := by
    obtain ⟨fuel, hf⟩ := h0
    rcases open_ints Try.underlying37 Try.underlying5 (by kernel_rfl) hf with ⟨hcs, _⟩ | ⟨x, l, c, zs, hcs, _, hl, hm, hz, _, hcell, hwz⟩
    · simp [Value.cells] at hcs
      obtain ⟨rfl, rfl, rfl⟩ := hcs
      exact ⟨[], .inl ⟨rfl, rfl, rfl, rfl⟩⟩
    · simp [Value.cells] at hcs
      obtain ⟨rfl, rfl, rfl⟩ := hcs
      exact ⟨zs, .inr ⟨_, rfl, hl, hm, by simpa using hz, hcell, hwz⟩⟩
  obtain ⟨a1, rfl, rfl, rfl, w1⟩ := open_int Try.underlying5 (hval 1 5 v1 rfl rfl) h1
  clear hA0 hval0
  refine (blockAgain_walk a0 len0 cap0 z0 a1 W w0 w1).mono fun e W' ⟨he, bel⟩ => ?_
  subst he
  exact ⟨_, rfl, _, _, _, [], _, [], hW', trodAll_mk1 (shut_bool Try.underlying4 _), (trodAll_cons_mk (Below.trod Try.laidOut (by kernel_rfl) (of_decide_eq_true (by kernel_rfl)) k0 bel lt0) (trodAll_cons_mk (shut_int Try.underlying5 w1) trodAll_mk0)), rfl, bel.frame _, fun h => by cases h⟩

theorem blockAgain_over : Rows.blockAgainRow.holds Try.pinned (OpenSpec.ofChange Rows.blockAgainSpec) :=
  OpenClaim.holds_of_wide 7 Try.f7 rfl rfl rfl rfl rfl rfl rfl ⟨rfl, rfl, rfl, rfl, rfl⟩ rfl rfl rfl rfl rfl (by kernel_rfl) Try.func7 (by kernel_rfl)
    (of_decide_eq_true (by kernel_rfl)) (by unfold Func.isWrapper; first | (rw [if_pos (by decide +kernel)]; kernel_rfl) | (rw [if_neg (by decide +kernel)]; exact ⟨rfl, rfl⟩))
    (fun os started H enc _ => blockAgain_lifted os started H enc)

theorem blockAgain_proved : Rows.BlockAgainSaid := blockAgain_over
#print axioms blockAgain_proved
end Go.Proofs.Ytmphpdonpaefpaa
