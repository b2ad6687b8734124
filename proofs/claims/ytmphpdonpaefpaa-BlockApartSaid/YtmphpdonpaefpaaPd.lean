/-
  Called with any bytes and any numbers, grommetlaw03.BlockApart returns true; no condition.
-/
import Derived.Test.YtmphpdonpaefpaaSh
import Derived.WalkKit
import Derived.ProofKit
import Derived.OpenShut
import Derived.ShutString
import Derived.ChangeOld
import Derived.Below
namespace Go.Proofs.Ytmphpdonpaefpaa
open Go.ChangeShapes Go.WideShapes Go.ChangeAt Go.RowKit
open Go.ChangeMaps (open_string shut_string)
set_option linter.unusedVariables false


def Made (d : Sd) (k : Nat) : Prop := d.n = k ∧ d.ops = k ∧ (∀ i, i < k → d.B i = some (zs 16)) ∧ ∀ i, k ≤ i → d.B i = none
theorem Made.next {d : Sd} {k G : Nat} (h : Made d k) (hz : d.size = 16) : Made (d.op.al k G) (k + 1) := by
  obtain ⟨h1, h3, h4, h5⟩ := h
  refine ⟨by simp [Sd.al, Sd.op, h1], by simp [Sd.al, Sd.op, h3], fun i hi => ?_, fun i hi => ?_⟩
  · by_cases e : i = k
    · simp [Sd.al, Sd.op, e, hz]
    · simp only [Sd.op, Sd.al, if_neg e]; exact h4 i (by omega)
  · simp only [Sd.op, Sd.al, if_neg (show i ≠ k by omega)]; exact h5 i (by omega)
set_option maxHeartbeats 4000000 in
set_option maxRecDepth 100000 in
theorem blockApart_walk (a0 : Option Addr) (len0 cap0 : Nat) (z0 : List Int) (a1 : Option Addr) (len1 cap1 : Nat) (z1 : List Int) (a2 : Int) (a3 : Int) (w : World) (w0 : IsRow .u8 w a0 len0 cap0 z0) (w1 : IsRow .u8 w a1 len1 cap1 z1) (w2 : (Lit.int .u8 a2).wf = true) (w3 : (Lit.int .u8 a3).wf = true) :
    Calls Try.prog 5 #[.slice a0 len0 cap0, .slice a1 len1 cap1, .int .u8 a2, .int .u8 a3] w fun e w' => e = .returned (.bool true) ∧ Below w.heap.size w w' := by
  obtain ⟨l0, hb0⟩ := byt_of_row w0
  obtain ⟨l1, hb1⟩ := byt_of_row w1
  have hcap0 : cap0 ≤ 9223372036854775807 := hb0.2.2.2.1
  have hlc0 : len0 ≤ cap0 := hb0.2.2.1
  have hcap1 : cap1 ≤ 9223372036854775807 := hb1.2.2.2.1
  have hlc1 : len1 ≤ cap1 := hb1.2.2.1
  have h8 := wf_u8 w2
  have h9 := wf_u8 w3
  have h80 := h8.1
  have h81 := h8.2
  have h90 := h9.1
  have h91 := h9.2
  have HB0 := Lib.hid hb0
  have HB1 := Lib.hid hb1
  clear w0 w1 w2 w3 hb0 hb1 h8 h9
  by_cases hbig : len0 < 16 ∨ (16 ≤ len0 ∧ len1 < 16)
  · rcases hbig with h | ⟨h, h'⟩
    all_goals
      go_enter Try.func5, Try.ntmps5
      go_wp2_with (first
        | (go_at_call 12; refine (awake3_any _).mono ?_; rintro e w1 ⟨rfl, hb1⟩; have HB1 := Lib.hid hb1; clear hb1))
      go_ret
      exact ⟨rfl, HB1.out⟩
  · obtain ⟨c, rfl⟩ := Int.eq_ofNat_of_zero_le h80
    obtain ⟨c', rfl⟩ := Int.eq_ofNat_of_zero_le h90
    have hx : ∃ N : Nat, ((c : Int) % 8) = (N : Int) ∧ N < 8 := ⟨c % 8, by omega, by omega⟩
    obtain ⟨x, hx, hx8⟩ := hx
    have hy : ∃ N : Nat, ((c' : Int) % 8) = (N : Int) ∧ N < 8 := ⟨c' % 8, by omega, by omega⟩
    obtain ⟨y, hy, hy8⟩ := hy
    have HX := Lib.hid hx
    have HY := Lib.hid hy
    have hl0 : 16 ≤ len0 := by omega
    have hl1 : 16 ≤ len1 := by omega
    obtain ⟨la, hla⟩ : ∃ lt, lt = l0.take 16 := ⟨_, rfl⟩
    obtain ⟨lb, hlb⟩ : ∃ lt, lt = l1.take 16 := ⟨_, rfl⟩
    have HA : Hid (Byt w a0 16 cap0 la) := Lib.hid (by rw [hla]; exact HB0.out.take 16 hl0)
    have HB : Hid (Byt w a1 16 cap1 lb) := Lib.hid (by rw [hlb]; exact HB1.out.take 16 hl1)
    clear hx hy hla hlb HB0 HB1 hbig
    go_enter Try.func5, Try.ntmps5
    go_wp2_with fail
    refine (awake3_any _).mono ?_
    rintro e w1 ⟨rfl, hb1⟩
    have HB1 := Lib.hid hb1
    clear hb1
    go_wp2_with fail
    refine (SNew_ok 16 8 _ (by omega) (by omega) (by omega)).mono ?_
    rintro e w2 ⟨s, m, rfl, h2, b2, hs, hm⟩
    have HR0 : Hid (SRel w s m 16 8 (nu 16 8) w2) := Lib.hid (SRel.new HB1.out h2 b2 hs hm)
    clear h2 b2 hs hm
    go_wp2_with fail
    go_loopw [11] (fun i wr => ∃ k : Nat, k ≤ 8 ∧ i = .int .i64 k ∧ ∃ d, Hid (SRel w s m 16 8 d wr) ∧ Hid (Made d k)) (fun i _ => 8 - (intOf i).toNat)
    case atStart => exact ⟨0, Nat.zero_le _, rfl, nu 16 8, HR0, Lib.hid ⟨rfl, rfl, fun i hi => absurd hi (Nat.not_lt_zero _), fun i _ => rfl⟩⟩
    case round =>
      obtain ⟨k, hk, rfl, d, HR, HF⟩ := hrel
      by_cases hlt : k < 8
      · go_wp2_with fail
        refine (Alloc_ok s m d wr HR.out.sto (by have := HF.out.2.1; omega) HR.out.no (by rw [HR.out.cap, HF.out.1]; exact hlt)).mono ?_
        rintro e w3 ⟨L, G, rfl, hL, hG, h3, f3⟩
        obtain rfl := Low_uniq hL (k := k) (HF.out.2.2.2 k (Nat.le_refl _)) (fun i hi => by show (d.B i).isSome = true; rw [HF.out.2.2.1 i hi]; rfl)
        have HR3 := Lib.hid (HR.out.al hG h3 f3)
        have HF3 := Lib.hid (HF.out.next (G := G) HR.out.size)
        clear hL h3 f3
        go_wp2_with fail
        go_roundw
        case rel => exact ⟨L + 1, by omega, by go_num, _, HR3, HF3⟩
        case measure => simp [intOf]; omega
      · obtain rfl : k = 8 := by omega
        have hops : d.ops = 8 := HF.out.2.1
        have HO := Lib.hid hops
        clear hops
        have hxs : Hid ((d.B x).isSome = true) := Lib.hid (by rw [HF.out.2.2.1 x hx8]; rfl)
        have hys : Hid (((d.op.wr x la).B y).isSome = true) := Lib.hid (by by_cases e : y = x <;> simp [Sd.wr, Sd.op, e, HF.out.2.2.1 y hy8])
        have HW1 : Hid (∀ W, W = wr.drew → Calls Try.prog 18 #[.pointer (some ⟨s, 0, none⟩), .int .i64 x, .slice a0 16 cap0] W fun e w' => e = .returned (.int .i64 0) ∧ Hid (SRel w s m 16 8 (d.op.wr x la) w')) := Lib.hid (by
          rintro W rfl
          have HRd := HR.out.drewN 1
          refine (Write_ok2 s m d x a0 16 cap0 la _ HRd.sto HRd.size hxs.out (HA.out.kept HRd.bel) (by rw [HO.out]; decide) HRd.no).mono ?_
          rintro e w4 ⟨rfl, h4, f4⟩
          exact ⟨rfl, Lib.hid (HRd.wri hxs.out h4 f4)⟩)
        have HW2 : Hid (∀ W, Hid (SRel w s m 16 8 (d.op.wr x la) W) → Calls Try.prog 18 #[.pointer (some ⟨s, 0, none⟩), .int .i64 y, .slice a1 16 cap1] W fun e w' => e = .returned (.int .i64 0) ∧ Hid (SRel w s m 16 8 ((d.op.wr x la).op.wr y lb) w')) := Lib.hid (by
          intro W HRd
          refine (Write_ok2 s m (d.op.wr x la) y a1 16 cap1 lb _ HRd.out.sto HRd.out.size hys.out (HB.out.kept HRd.out.bel) (by show d.ops + 1 < _; rw [HO.out]; decide) HRd.out.no).mono ?_
          rintro e w4 ⟨rfl, h4, f4⟩
          exact ⟨rfl, Lib.hid (HRd.out.wri hys.out h4 f4)⟩)
        obtain ⟨lx, hlx⟩ : ∃ lx, lx = if x = y then lb else la := ⟨_, rfl⟩
        have HLX := Lib.hid hlx
        clear hlx
        have HQ : Hid (∀ W, Hid (SRel w s m 16 8 ((d.op.wr x la).op.wr y lb) W) → Calls Try.prog 17 #[.pointer (some ⟨s, 0, none⟩), .int .i64 x] W fun e w' => ∃ b : Nat, e = .returned (.tuple #[.slice (some ⟨b, 0, none⟩) 16 16, .int .i64 0]) ∧ Byt w' (some ⟨b, 0, none⟩) 16 16 lx ∧ Hid (SRel w s m 16 8 ((d.op.wr x la).op.wr y lb).op w')) := Lib.hid (by
          intro W HRd
          refine (Read_ok2 s m 16 _ x lx W HRd.out.sto HRd.out.size (by rw [HLX.out]; by_cases e : x = y <;> simp [Sd.wr, Sd.op, e]) (by show d.ops + 1 + 1 < _; rw [HO.out]; decide) HRd.out.no).mono ?_
          rintro e w4 ⟨b, rfl, hbb, hby, _, h4, f4⟩
          exact ⟨b, rfl, hby, Lib.hid (HRd.out.opd h4 f4)⟩)
        have HQ2 : Hid (∀ W, Hid (SRel w s m 16 8 ((d.op.wr x la).op.wr y lb).op W) → Calls Try.prog 17 #[.pointer (some ⟨s, 0, none⟩), .int .i64 y] W fun e w' => ∃ b : Nat, e = .returned (.tuple #[.slice (some ⟨b, 0, none⟩) 16 16, .int .i64 0]) ∧ Byt w' (some ⟨b, 0, none⟩) 16 16 lb ∧ (∀ b' n l, Byt W (some ⟨b', 0, none⟩) n n l → Byt w' (some ⟨b', 0, none⟩) n n l) ∧ Hid (SRel w s m 16 8 ((d.op.wr x la).op.wr y lb).op.op w')) := Lib.hid (by
          intro W HRd
          refine (Read_ok2 s m 16 _ y lb W HRd.out.sto HRd.out.size (by simp [Sd.wr, Sd.op]) (by show d.ops + 1 + 1 + 1 < _; rw [HO.out]; decide) HRd.out.no).mono ?_
          rintro e w4 ⟨b, rfl, hbb, hby, _, h4, f4⟩
          refine ⟨b, rfl, hby, fun b' n l hl => ?_, Lib.hid (HRd.out.opd h4 f4)⟩
          by_cases h0 : 0 < n
          · exact hl.fr f4 (byt_ne HRd.out.sto.blk hl h0)
          · exact ⟨hl.1, hl.2.1, hl.2.2.1, hl.2.2.2.1, fun h => absurd h h0⟩)
        go_wp2_with fail
        rw [HX.out, HY.out]
        go_region_with (first
          | ((with_reducible refine (HW1.out _ rfl).mono ?_); rintro e w4 ⟨rfl, HR4⟩)
          | ((with_reducible refine (HW2.out _ HR4).mono ?_); rintro e w5 ⟨rfl, HR5⟩))
        all_goals
          go_wp2_with fail
          refine (HQ.out w5 HR5).mono ?_
          rintro e w6 ⟨b6, rfl, hb6, HR6⟩
          have HY6 := Lib.hid hb6
          clear hb6
          go_wp2_with fail
          refine (HQ2.out w6 HR6).mono ?_
          rintro e w7 ⟨b7, rfl, hb7, hbel7, HR7⟩
          have hc1 : ∀ n, (convert 37 9 (.slice (some ⟨b6, 0, none⟩) 16 16)).run Try.prog (w7.drewN n) = .ok (.string (str lx)) (w7.drewN n) := fun n => conv_byt ((hbel7 _ _ _ HY6.out).drewN n)
          have hc2 : ∀ n, (convert 37 9 (.slice (some ⟨b7, 0, none⟩) 16 16)).run Try.prog (w7.drewN n) = .ok (.string (str lb)) (w7.drewN n) := fun n => conv_byt (hb7.drewN n)
          have hc3 : ∀ n, (convert 37 9 (.slice a0 16 cap0)).run Try.prog (w7.drewN n) = .ok (.string (str la)) (w7.drewN n) := fun n => conv_byt ((HA.out.kept HR7.out.bel).drewN n)
          have hc4 : ∀ n, (convert 37 9 (.slice a1 16 cap1)).run Try.prog (w7.drewN n) = .ok (.string (str lb)) (w7.drewN n) := fun n => conv_byt ((HB.out.kept HR7.out.bel).drewN n)
          have hse : ((str lb).toList == (str lb).toList) = true := by simp
          have hsn : ((str lb).toList != (str lb).toList) = false := by simp
          have hsa : ((str la).toList == (str la).toList) = true := by simp
          clear hb7 hbel7
          by_cases hxy : x = y
          · obtain rfl := hxy
            obtain rfl : lx = lb := by rw [HLX.out, if_pos rfl]
            have heq : ((x : Int) == (x : Int)) = true := by simp
            have hneq : ((x : Int) != (x : Int)) = false := by simp
            go_wp2_with fail
            go_quiet (fail)
            go_wp2
            go_quiet (fail)
            go_wp2
            go_ret
            exact ⟨rfl, ((HR7.out.drewN _).drewN _).bel⟩
          · obtain rfl : lx = la := by rw [HLX.out, if_neg hxy]
            have heq : ((x : Int) == (y : Int)) = false := by simp; omega
            have hneq : ((x : Int) != (y : Int)) = true := by simp; omega
            clear hxy
            go_wp2_with fail
            go_quiet (fail)
            go_wp2
            go_quiet (fail)
            go_wp2
            go_ret
            exact ⟨rfl, ((HR7.out.drewN _).drewN _).bel⟩

set_option maxRecDepth 100000 in
theorem blockApart_lifted (os : Os) (started : os.Started) (H : Type) (enc : TypeId × Value → H) :
    ReturnsInHanded {} Try.checked os 5 .any (Rows.blockApartSpec.pre6 enc Try.prog Try.f5 Rows.blockApartRow.domain false) (Rows.blockApartSpec.post enc Try.prog Try.f5 false true false false) := by
  refine returnsInHanded_of_change (C := Try.checked) Try.own started (by kernel_rfl) Try.func5
    (ChangeSpec.witness6 (enc := enc) (C := Try.checked) false ⟨#[], #[.slice none 0 0, .slice none 0 0, .int .u8 0, .int .u8 0], []⟩ 8 (by kernel_rfl) (by kernel_rfl) (by kernel_rfl) (by kernel_rfl)) ?_
  intro W base args ds gs before hval0 hW hcnd _
  have hval : ∀ (j : Nat) t v, Try.f5.params[j]? = some t → args[j]? = some v → Value.okWide Try.prog W .any base t v := hval0
  have hW' := hW
  obtain ⟨p, q, hA0, hV, rfl, hfz, hnd⟩ := hW
  have hA : DataW.TrodAll enc Try.prog W 0 (fun _ => true) true Try.f5.params.toList args.toList ds p := hA0
  rw [Try.params5] at hA hval
  obtain ⟨v0, vs0, d0, ds0, p0, q0, hargs, rfl, rfl, h0, r0⟩ := trodAll_cons hA
  obtain ⟨v1, vs1, d1, ds1, p1, q1, rfl, rfl, rfl, h1, r1⟩ := trodAll_cons r0
  obtain ⟨v2, vs2, d2, ds2, p2, q2, rfl, rfl, rfl, h2, r2⟩ := trodAll_cons r1
  obtain ⟨v3, vs3, d3, ds3, p3, q3, rfl, rfl, rfl, h3, r3⟩ := trodAll_cons r2
  obtain ⟨rfl, rfl, rfl⟩ := trodAll_nil r3
  obtain rfl : args = #[v0, v1, v2, v3] := by cases args; simp_all
  obtain ⟨rfl, rfl⟩ := trodVars_none hV
  obtain ⟨a0, len0, cap0, rfl⟩ := okWide_slice Try.underlying37 (hval 0 37 v0 rfl rfl)
  have k0 := h0
  have lt0 : ∀ x ∈ p0, x.block < W.heap.size := by obtain ⟨m, hm⟩ := k0; exact DataW.trod_lt m _ _ _ hm
  obtain ⟨z0, w0⟩ : ∃ zs, IsRow .u8 W a0 len0 cap0 zs := by
    obtain ⟨fuel, hf⟩ := h0
    rcases open_ints Try.underlying37 Try.underlying5 (by kernel_rfl) hf with ⟨hcs, _⟩ | ⟨x, l, c, zs, hcs, _, hl, hm, hz, _, hcell, hwz⟩
    · simp [Value.cells] at hcs
      obtain ⟨rfl, rfl, rfl⟩ := hcs
      exact ⟨[], .inl ⟨rfl, rfl, rfl, rfl⟩⟩
    · simp [Value.cells] at hcs
      obtain ⟨rfl, rfl, rfl⟩ := hcs
      exact ⟨zs, .inr ⟨_, rfl, hl, hm, by simpa using hz, hcell, hwz⟩⟩
  obtain ⟨a1, len1, cap1, rfl⟩ := okWide_slice Try.underlying37 (hval 1 37 v1 rfl rfl)
  have k1 := h1
  have lt1 : ∀ x ∈ p1, x.block < W.heap.size := by obtain ⟨m, hm⟩ := k1; exact DataW.trod_lt m _ _ _ hm
  obtain ⟨z1, w1⟩ : ∃ zs, IsRow .u8 W a1 len1 cap1 zs := by
    obtain ⟨fuel, hf⟩ := h1
    rcases open_ints Try.underlying37 Try.underlying5 (by kernel_rfl) hf with ⟨hcs, _⟩ | ⟨x, l, c, zs, hcs, _, hl, hm, hz, _, hcell, hwz⟩
    · simp [Value.cells] at hcs
      obtain ⟨rfl, rfl, rfl⟩ := hcs
      exact ⟨[], .inl ⟨rfl, rfl, rfl, rfl⟩⟩
    · simp [Value.cells] at hcs
      obtain ⟨rfl, rfl, rfl⟩ := hcs
      exact ⟨zs, .inr ⟨_, rfl, hl, hm, by simpa using hz, hcell, hwz⟩⟩
  obtain ⟨a2, rfl, rfl, rfl, w2⟩ := open_int Try.underlying5 (hval 2 5 v2 rfl rfl) h2
  obtain ⟨a3, rfl, rfl, rfl, w3⟩ := open_int Try.underlying5 (hval 3 5 v3 rfl rfl) h3
  clear hA0 hval0
  refine (blockApart_walk a0 len0 cap0 z0 a1 len1 cap1 z1 a2 a3 W w0 w1 w2 w3).mono fun e W' ⟨he, bel⟩ => ?_
  subst he
  exact ⟨_, rfl, _, _, _, [], _, [], hW', trodAll_mk1 (shut_bool Try.underlying4 _), (trodAll_cons_mk (Below.trod Try.laidOut (by kernel_rfl) (of_decide_eq_true (by kernel_rfl)) k0 bel lt0) (trodAll_cons_mk (Below.trod Try.laidOut (by kernel_rfl) (of_decide_eq_true (by kernel_rfl)) k1 bel lt1) (trodAll_cons_mk (shut_int Try.underlying5 w2) (trodAll_cons_mk (shut_int Try.underlying5 w3) trodAll_mk0)))), rfl, bel.frame _, fun h => by cases h⟩

theorem blockApart_over : Rows.blockApartRow.holds Try.pinned (OpenSpec.ofChange Rows.blockApartSpec) :=
  OpenClaim.holds_of_wide 5 Try.f5 rfl rfl rfl rfl rfl rfl rfl ⟨rfl, rfl, rfl, rfl, rfl⟩ rfl rfl rfl rfl rfl (by kernel_rfl) Try.func5 (by kernel_rfl)
    (of_decide_eq_true (by kernel_rfl)) (by unfold Func.isWrapper; first | (rw [if_pos (by decide +kernel)]; kernel_rfl) | (rw [if_neg (by decide +kernel)]; exact ⟨rfl, rfl⟩))
    (fun os started H enc _ => blockApart_lifted os started H enc)

theorem blockApart_proved : Rows.BlockApartSaid := blockApart_over
#print axioms blockApart_proved
end Go.Proofs.Ytmphpdonpaefpaa
