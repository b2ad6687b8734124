/-
  Called with any number and any bytes, grommetlaw03.BlockFills returns true; no condition.
-/
import Derived.Test.YtmphpdonpaefpaaSg
import Derived.WalkKit
import Derived.ProofKit
import Derived.OpenShut
import Derived.ShutString
import Derived.ChangeOld
import Derived.Below
namespace Go.Proofs.Ytmphpdonpaefpaa
open Go.ChangeShapes Go.WideShapes Go.ChangeAt Go.RowKit
open Go.ChangeMaps (open_string shut_string)
set_option linter.unusedVariables false


structure FRel (w : World) (s m N : Nat) (d : Sd) (wr : World) : Prop where
  sto : Sto wr s m d
  bel : Below w.heap.size w wr
  hs : w.heap.size ≤ s
  hm : w.heap.size ≤ m
  cap : d.cap = N
  fails : d.fails < 0
theorem FRel.al {w w1 w2 : World} {s m N L G : Nat} {d : Sd} (h : FRel w s m N d w1) (hs : Sto w2 s m (d.op.al L G)) (hf : Fr (fun k => k = s ∨ k = m) w1 w2) : FRel w s m N (d.op.al L G) w2 :=
  ⟨hs, below_sm h.bel h.hs h.hm hf, h.hs, h.hm, h.cap, h.fails⟩
theorem FRel.fre {w w1 w2 : World} {s m N j : Nat} {d : Sd} (h : FRel w s m N d w1) (hs : Sto w2 s m (d.op.fr j)) (hf : Fr (fun k => k = s ∨ k = m) w1 w2) : FRel w s m N (d.op.fr j) w2 :=
  ⟨hs, below_sm h.bel h.hs h.hm hf, h.hs, h.hm, h.cap, h.fails⟩
theorem FRel.opd {w w1 w2 : World} {s m N : Nat} {d : Sd} (h : FRel w s m N d w1) (hs : Sto w2 s m d.op) (hf : Fr (· = s) w1 w2) : FRel w s m N d.op w2 :=
  ⟨hs, below_s h.bel h.hs hf, h.hs, h.hm, h.cap, h.fails⟩
theorem FRel.drewN {w w1 : World} {s m N : Nat} {d : Sd} (h : FRel w s m N d w1) (k : Nat) : FRel w s m N d (w1.drewN k) :=
  ⟨h.sto.drewN k, ⟨h.bel.os, h.bel.tape, h.bel.output, h.bel.size, h.bel.block⟩, h.hs, h.hm, h.cap, h.fails⟩
theorem FRel.num_le {w w1 : World} {s m N : Nat} {d : Sd} (h : FRel w s m N d w1) : d.n ≤ N := by
  rw [h.sto.num, ← h.cap]
  exact cnt_le _ _
def Filled (d : Sd) (k : Nat) : Prop := d.n = k ∧ d.peak = k ∧ d.ops = k ∧ (∀ i, i < k → (d.B i).isSome) ∧ ∀ i, k ≤ i → d.B i = none
theorem Filled.next {d : Sd} {k G : Nat} (h : Filled d k) : Filled (d.op.al k G) (k + 1) := by
  obtain ⟨h1, h2, h3, h4, h5⟩ := h
  refine ⟨by simp [Sd.al, Sd.op, h1], by simp [Sd.al, Sd.op, h1, h2], by simp [Sd.al, Sd.op, h3], fun i hi => ?_, fun i hi => ?_⟩
  · by_cases e : i = k
    · simp [Sd.al, e]
    · simp only [Sd.al, if_neg e]; exact h4 i (by omega)
  · simp only [Sd.al, if_neg (show i ≠ k by omega)]; exact h5 i (by omega)
def Prefix (d : Sd) (x : Int) : Prop := ∀ i : Nat, (i : Int) ≤ x → (d.B i).isSome
set_option maxHeartbeats 2000000 in
set_option maxRecDepth 100000 in
theorem blockFills_walk (a0 : Int) (a1 : Option Addr) (len1 cap1 : Nat) (z1 : List Int) (w : World) (w0 : (Lit.int .u8 a0).wf = true) (w1 : IsRow .u8 w a1 len1 cap1 z1) :
    Calls Try.prog 4 #[.int .u8 a0, .slice a1 len1 cap1] w fun e w' => e = .returned (.bool true) ∧ Below w.heap.size w w' := by
  obtain ⟨l, hb⟩ := byt_of_row w1
  have hcap : cap1 ≤ 9223372036854775807 := hb.2.2.2.1
  have hlc : len1 ≤ cap1 := hb.2.2.1
  have h8 := wf_u8 w0
  have h80 := h8.1
  have h81 := h8.2
  have HB := Lib.hid hb
  clear w0 w1 hb h8
  by_cases hbig : 40 < len1
  · go_enter Try.func4, Try.ntmps4
    go_wp2_with (first
      | (go_at_call 12; refine (awake3_any _).mono ?_; rintro e w1 ⟨rfl, hb1⟩; have HB1 := Lib.hid hb1; clear hb1))
    go_ret
    exact ⟨rfl, HB1.out⟩
  · obtain ⟨c, rfl⟩ := Int.eq_ofNat_of_zero_le h80
    have hx : ∃ N : Nat, ((c : Int) % 40) = (N : Int) ∧ N < 40 := ⟨c % 40, by omega, by omega⟩
    obtain ⟨N, hN, hN40⟩ := hx
    have HN := Lib.hid hN
    clear hN
    go_enter Try.func4, Try.ntmps4
    go_wp2_with fail
    refine (awake3_any _).mono ?_
    rintro e w1 ⟨rfl, hb1⟩
    have HB1 := Lib.hid hb1
    clear hb1
    go_wp2_with fail
    rw [HN.out]
    refine (SNew_ok 16 N _ (by omega) (by omega) (by omega)).mono ?_
    rintro e w2 ⟨s, m, rfl, h2, b2, hs, hm⟩
    have HR0 : Hid (FRel w s m N (nu 16 N) w2) := Lib.hid ⟨h2, HB1.out.trans (b2.mono HB1.out.size), Nat.le_trans HB1.out.size hs, Nat.le_trans HB1.out.size hm, rfl, by show (-1 : Int) < 0; decide⟩
    clear h2 b2 hs hm
    go_wp2_with fail
    go_loopw [8] (fun i wr => ∃ k : Nat, k ≤ N ∧ i = .int .i64 k ∧ ∃ d, Hid (FRel w s m N d wr) ∧ Hid (Filled d k)) (fun i _ => N - (intOf i).toNat)
    case atStart => exact ⟨0, Nat.zero_le _, rfl, nu 16 N, HR0, Lib.hid ⟨rfl, rfl, rfl, fun i hi => absurd hi (Nat.not_lt_zero _), fun i _ => rfl⟩⟩
    case round =>
      obtain ⟨k, hk, rfl, d, HR, HF⟩ := hrel
      by_cases hlt : k < N
      · go_wp2_with fail
        refine (Alloc_ok s m d wr HR.out.sto (by have := HF.out.2.2.1; omega) (Sd.fl_no HR.out.fails) (by rw [HR.out.cap, HF.out.1]; exact hlt)).mono ?_
        rintro e w3 ⟨L, G, rfl, hL, hG, h3, f3⟩
        obtain rfl := Low_uniq hL (k := k) (HF.out.2.2.2.2 k (Nat.le_refl _)) HF.out.2.2.2.1
        have HR3 := Lib.hid (HR.out.al h3 f3)
        have HF3 := Lib.hid (HF.out.next (G := G))
        have hne : ((L : Int) != (L : Int)) = false := by simp
        clear hL h3 f3
        go_wp2_with fail
        go_roundw
        case rel => exact ⟨L + 1, by omega, by go_num, _, HR3, HF3⟩
        case measure => simp [intOf]; omega
      · obtain rfl : k = N := by omega
        have HP : Hid (d.peak = k ∧ d.ops = k) := Lib.hid ⟨HF.out.2.1, HF.out.2.2.1⟩
        go_wp2_with fail
        refine (Alloc_full s m d wr HR.out.sto (by have := HP.out.2; omega) (Sd.fl_no HR.out.fails) (by rw [HR.out.cap]; exact HF.out.1)).mono ?_
        rintro e w3 ⟨rfl, h3, f3⟩
        have HR3 := Lib.hid (HR.out.opd h3 f3)
        clear h3 f3
        have HU : Hid (Calls Try.prog 19 #[.pointer (some ⟨s, 0, none⟩)] w3 fun e w' => e = .returned (.int .i64 k) ∧ w3 = w') := Lib.hid (by
          have := Used_any HR3.out.sto
          rw [show d.op.n = k from HF.out.1] at this
          exact this)
        have hne : ((k : Int) != (k : Int)) = false := by simp
        go_wp2_with (first | (go_at_call 19; refine HU.out.mono ?_; rintro e w' ⟨rfl, rfl⟩))
        have HP3 : Hid (d.op.peak = k ∧ d.op.ops = k + 1) := Lib.hid ⟨HP.out.1, by show d.ops + 1 = _; rw [HP.out.2]⟩
        clear HU
        go_loopw [13] (fun i wr => ∃ j : Nat, j ≤ len1 ∧ i = .int .i64 j ∧ ∃ d, Hid (FRel w s m k d wr) ∧ Hid (d.peak = k ∧ d.ops ≤ k + 1 + j)) (fun i _ => len1 - (intOf i).toNat)
        case atStart => exact ⟨0, Nat.zero_le _, rfl, d.op, HR3, Lib.hid ⟨HP3.out.1, Nat.le_of_eq HP3.out.2⟩⟩
        case round =>
          obtain ⟨j, hj, rfl, d2, HR, HF⟩ := hrel
          by_cases hlt : j < len1
          · obtain ⟨bb, off, rfl, hbl, hcell⟩ := HB.out.2.2.2.2 (by omega)
            have d0 : wr.cell? ⟨bb, off + j, none⟩ = some (.int .u8 ((l.getD j 0 : Nat) : Int)) := (HR.out.bel.cell (p := ⟨bb, off + j, none⟩) hbl).trans (hcell j hlt)
            have hz : l.getD j 0 < 256 := HB.out.2.1 _ (by rw [List.getD_eq_getElem?_getD, List.getElem?_eq_getElem (by have := HB.out.1; omega)]; exact List.getElem_mem _)
            clear hcell hbl
            generalize l.getD j 0 = z at *
            have hops : d2.ops < 1000000 := by have := HF.out.2; omega
            go_wp2_with fail
            by_cases hin : (d2.B z).isSome
            · refine (Free_ok s m d2 z wr HR.out.sto hin hops (Sd.fl_no HR.out.fails)).mono ?_
              rintro e w4 ⟨rfl, h4, f4⟩
              have HR4 := Lib.hid (HR.out.fre h4 f4)
              have HF4 : Hid ((d2.op.fr z).peak = k ∧ (d2.op.fr z).ops ≤ k + 1 + (j + 1)) := Lib.hid ⟨HF.out.1, by show d2.ops + 1 ≤ _; have := HF.out.2; omega⟩
              clear h4 f4 hin
              go_wp2_with fail
              go_roundw
              case rel => exact ⟨j + 1, by omega, by go_num, _, HR4, HF4⟩
              case measure => simp [intOf]; omega
            · refine (Free_no s m d2 z wr HR.out.sto (WalkArith.wf_i64 (by omega)) (by rw [Sd.f_nat]; simpa using hin)).mono ?_
              rintro e w4 ⟨rfl, rfl⟩
              have HF4 : Hid (d2.peak = k ∧ d2.ops ≤ k + 1 + (j + 1)) := Lib.hid ⟨HF.out.1, by have := HF.out.2; omega⟩
              clear hin
              go_wp2_with fail
              go_roundw
              case rel => exact ⟨j + 1, by omega, by go_num, _, HR, HF4⟩
              case measure => simp [intOf]; omega
          · have HF5 : Hid (d2.peak = k ∧ d2.ops ≤ 100 + d2.n) := Lib.hid ⟨HF.out.1, by have := HF.out.2; omega⟩
            go_wp2_with fail
            go_loopw [14] (fun x wr => ∃ y : Int, -1 ≤ y ∧ y < k ∧ x = .int .i64 y ∧ ∃ d, Hid (FRel w s m k d wr) ∧ Hid (d.peak = k ∧ d.ops ≤ 100 + d.n) ∧ Hid (Prefix d y)) (fun x _ => (k - intOf x).toNat)
            case atStart => exact ⟨-1, by omega, by omega, rfl, d2, HR, HF5, Lib.hid (fun i hi => by omega)⟩
            case round =>
              obtain ⟨y, hy1, hy2, rfl, d3, HR, HF, HX⟩ := hrel
              have hnk := HR.out.num_le
              have HU := Lib.hid (Used_any HR.out.sto)
              by_cases hlt : d3.n < k
              · go_wp2_with (first | (go_at_call 19; refine HU.out.mono ?_; rintro e w' ⟨rfl, rfl⟩))
                refine (Alloc_ok s m d3 wr HR.out.sto (by have := HF.out.2; omega) (Sd.fl_no HR.out.fails) (by rw [HR.out.cap]; exact hlt)).mono ?_
                rintro e w6 ⟨L, G, rfl, hL, hG, h6, f6⟩
                have hyL : y < (L : Int) := by
                  by_cases h : y < (L : Int)
                  · exact h
                  · have := HX.out L (by omega)
                    rw [show d3.B L = none from hL.1] at this
                    cases this
                have hLk : L < k := by have h1 : L < d3.cap := hL.2.2; have h2 := HR.out.cap; omega
                have HR6 := Lib.hid (HR.out.al h6 f6)
                have HF6 : Hid ((d3.op.al L G).peak = k ∧ (d3.op.al L G).ops ≤ 100 + (d3.op.al L G).n) := Lib.hid ⟨by show max d3.peak (d3.n + 1) = k; have := HF.out.1; omega, by show d3.ops + 1 ≤ 100 + (d3.n + 1); have := HF.out.2; omega⟩
                have HX6 : Hid (Prefix (d3.op.al L G) (L : Int)) := Lib.hid (fun i hi => by
                  by_cases e : i = L
                  · simp [Sd.al, e]
                  · simp only [Sd.al, if_neg e]
                    exact hL.2.1 i (by omega))
                clear hL h6 f6
                go_wp2_with fail
                go_roundw
                case rel => exact ⟨(L : Int), by omega, by omega, rfl, _, HR6, HF6, HX6⟩
                case measure => simp [intOf]; omega
              · have HP : Hid (Calls Try.prog 20 #[.pointer (some ⟨s, 0, none⟩)] wr fun e w' => e = .returned (.int .i64 k) ∧ wr = w') := Lib.hid (by
                  have := Peak_any HR.out.sto
                  rw [HF.out.1] at this
                  exact this)
                have heq : ((k : Int) == (k : Int)) = true := by simp
                go_wp2_with (first | (go_at_call 19; refine HU.out.mono ?_; rintro e w' ⟨rfl, rfl⟩) | (go_at_call 20; refine HP.out.mono ?_; rintro e w' ⟨rfl, rfl⟩))
                go_ret
                exact ⟨rfl, HR.out.bel⟩

set_option maxRecDepth 100000 in
theorem blockFills_lifted (os : Os) (started : os.Started) (H : Type) (enc : TypeId × Value → H) :
    ReturnsInHanded {} Try.checked os 4 .any (Rows.blockFillsSpec.pre6 enc Try.prog Try.f4 Rows.blockFillsRow.domain false) (Rows.blockFillsSpec.post enc Try.prog Try.f4 false true false false) := by
  refine returnsInHanded_of_change (C := Try.checked) Try.own started (by kernel_rfl) Try.func4
    (ChangeSpec.witness6 (enc := enc) (C := Try.checked) false ⟨#[], #[.int .u8 0, .slice none 0 0], []⟩ 8 (by kernel_rfl) (by kernel_rfl) (by kernel_rfl) (by kernel_rfl)) ?_
  intro W base args ds gs before hval0 hW hcnd _
  have hval : ∀ (j : Nat) t v, Try.f4.params[j]? = some t → args[j]? = some v → Value.okWide Try.prog W .any base t v := hval0
  have hW' := hW
  obtain ⟨p, q, hA0, hV, rfl, hfz, hnd⟩ := hW
  have hA : DataW.TrodAll enc Try.prog W 0 (fun _ => true) true Try.f4.params.toList args.toList ds p := hA0
  rw [Try.params4] at hA hval
  obtain ⟨v0, vs0, d0, ds0, p0, q0, hargs, rfl, rfl, h0, r0⟩ := trodAll_cons hA
  obtain ⟨v1, vs1, d1, ds1, p1, q1, rfl, rfl, rfl, h1, r1⟩ := trodAll_cons r0
  obtain ⟨rfl, rfl, rfl⟩ := trodAll_nil r1
  obtain rfl : args = #[v0, v1] := by cases args; simp_all
  obtain ⟨rfl, rfl⟩ := trodVars_none hV
  obtain ⟨a0, rfl, rfl, rfl, w0⟩ := open_int Try.underlying5 (hval 0 5 v0 rfl rfl) h0
  obtain ⟨a1, len1, cap1, rfl⟩ := okWide_slice Try.underlying37 (hval 1 37 v1 rfl rfl)
  have k1 := h1
  have lt1 : ∀ x ∈ p1, x.block < W.heap.size := by obtain ⟨m, hm⟩ := k1; exact DataW.trod_lt m _ _ _ hm
  obtain ⟨z1, w1⟩ : ∃ zs, IsRow .u8 W a1 len1 cap1 zs := by
    obtain ⟨fuel, hf⟩ := h1
    rcases open_ints Try.underlying37 Try.underlying5 (by kernel_rfl) hf with ⟨hcs, _⟩ | ⟨x, l, c, zs, hcs, _, hl, hm, hz, _, hcell, hwz⟩
    · simp [Value.cells] at hcs
      obtain ⟨rfl, rfl, rfl⟩ := hcs
      exact ⟨[], .inl ⟨rfl, rfl, rfl, rfl⟩⟩
    · simp [Value.cells] at hcs
      obtain ⟨rfl, rfl, rfl⟩ := hcs
      exact ⟨zs, .inr ⟨_, rfl, hl, hm, by simpa using hz, hcell, hwz⟩⟩
  clear hA0 hval0
  refine (blockFills_walk a0 a1 len1 cap1 z1 W w0 w1).mono fun e W' ⟨he, bel⟩ => ?_
  subst he
  exact ⟨_, rfl, _, _, _, [], _, [], hW', trodAll_mk1 (shut_bool Try.underlying4 _), (trodAll_cons_mk (shut_int Try.underlying5 w0) (trodAll_cons_mk (Below.trod Try.laidOut (by kernel_rfl) (of_decide_eq_true (by kernel_rfl)) k1 bel lt1) trodAll_mk0)), rfl, bel.frame _, fun h => by cases h⟩

theorem blockFills_over : Rows.blockFillsRow.holds Try.pinned (OpenSpec.ofChange Rows.blockFillsSpec) :=
  OpenClaim.holds_of_wide 4 Try.f4 rfl rfl rfl rfl rfl rfl rfl ⟨rfl, rfl, rfl, rfl, rfl⟩ rfl rfl rfl rfl rfl (by kernel_rfl) Try.func4 (by kernel_rfl)
    (of_decide_eq_true (by kernel_rfl)) (by unfold Func.isWrapper; first | (rw [if_pos (by decide +kernel)]; kernel_rfl) | (rw [if_neg (by decide +kernel)]; exact ⟨rfl, rfl⟩))
    (fun os started H enc _ => blockFills_lifted os started H enc)

theorem blockFills_proved : Rows.BlockFillsSaid := blockFills_over
#print axioms blockFills_proved
end Go.Proofs.Ytmphpdonpaefpaa
