/-
  The walk of grommetlaw02.FlashCursors: any bytes, any part of them, any row of acts.
-/
import Derived.Test.YtchdcimmbmphnaaFm
import Derived.Deep.DeepCutAuto
import Derived.Deep.CutRange
import Derived.Deep.CutBlock
import Derived.Deep.LoopGhost
import Derived.Outline
namespace Go.Proofs.Ytchdcimmbmphnaa
open Go.RowKit
set_option linter.unusedVariables false
structure CRel (w : World) (f g c N : Nat) (l : List Nat) (r fr t a k : Nat) (wr : World) : Prop where
  st : St wr f g c N l r (-1) fr t a
  bel : Below w.heap.size w wr
  rk : r ≤ 12 * k
  qf : w.heap.size ≤ f
  qc : w.heap.size ≤ c
theorem CRel.to {w wr w2 : World} {f g c N r fr t a k r2 a2} {l : List Nat} (q : CRel w f g c N l r fr t a k wr) (h : Fr (FC f c) wr w2) (s : St w2 f g c N l r2 (-1) fr t a2) (hr : r2 ≤ 12 * (k + 1)) : CRel w f g c N l r2 fr t a2 (k + 1) w2 :=
  ⟨s, h.below q.bel q.bel.size (fun i hi => by
    have := q.qf
    have := q.qc
    rcases hi with e | e <;> omega), hr, q.qf, q.qc⟩
theorem CRel.drewN {w wr : World} {f g c N r fr t a k} {l : List Nat} (q : CRel w f g c N l r fr t a k wr) (j : Nat) : CRel w f g c N l r fr t a k (wr.drewN j) := ⟨q.st.drewN j, below_drewN q.bel j, q.rk, q.qf, q.qc⟩
theorem CRel.up {w wr : World} {f g c N r fr t a k} {l : List Nat} (q : CRel w f g c N l r fr t a k wr) : CRel w f g c N l r fr t a (k + 1) wr := ⟨q.st, q.bel, by have := q.rk; omega, q.qf, q.qc⟩
theorem CRel.part {w wr w2 : World} {f g c N r fr t a k p b} {l : List Nat} (q : CRel w f g c N l r fr t a k wr) (h : Fr (· = c) wr w2) (s : St w2 f g p N l r (-1) a b a) (hp : wr.heap.size ≤ p) : CRel w f g p N l r a b a (k + 1) w2 :=
  ⟨s, h.below q.bel q.bel.size (fun i hi => by have := q.qc; omega), by have := q.rk; omega, q.qf, Nat.le_trans q.bel.size hp⟩
theorem byt_zero {w : World} {A : Option Addr} {n cap : Nat} {l : List Nat} (h : Byt w A n cap l) (k : Nat) (hk : k < n) : ∃ b off, A = some ⟨b, off, none⟩ ∧ b < w.heap.size ∧ w.cell? ⟨b, off + k, none⟩ = some (.int .u8 (l.getD k 0 : Nat)) := by
  obtain ⟨b, off, hA, hlt, hc⟩ := h.2.2.2.2 (by omega)
  exact ⟨b, off, hA, hlt, hc k hk⟩
theorem CRel.mv {w wr w2 : World} {f g c N r fr t a k : Nat} {l : List Nat} (q : CRel w f g c N l r fr t a k wr) (h : Below wr.heap.size wr w2) : CRel w f g c N l r fr t a k w2 :=
  ⟨q.st.fr_ (Fr.of_below (S := fun _ => False) h) (fun e => e) (fun e => e) (fun e => e), q.bel.trans (h.mono q.bel.size), q.rk, q.qf, q.qc⟩
def RR (w : World) (f g n k : Nat) (l : List Nat) (v1 v2 v11 v13 : Value) (wx : World) : Prop :=
  ∃ (c r fr t a : Nat), fr ≤ a ∧ a ≤ t ∧ t ≤ n ∧ r ≤ 12 * (k + 1) ∧ v1 = .int .i64 fr ∧ v2 = .int .i64 t ∧ v11 = .pointer (some ⟨c, 0, none⟩) ∧ v13 = .int .i64 a ∧ Hid (CRel w f g c n l r fr t a (k + 1) wx)
set_option maxHeartbeats 8000000 in
set_option maxRecDepth 100000 in
theorem cursors (A : Option Addr) (n cap : Nat) (l : List Nat) (p q : Int) (B : Option Addr) (m capm : Nat) (K : Nat → Nat) (V : Nat → Int) (w : World) (hb : Byt w A n cap l) (ha : Acts w B m capm K V) :
    Calls Try.prog 9 #[.slice A n cap, .int .i64 p, .int .i64 q, .slice B m capm] w fun e w' => e = .returned (.bool true) ∧ Below w.heap.size w w' := by
  have hcap : cap ≤ 9223372036854775807 := hb.2.2.2.1
  have hlc : n ≤ cap := hb.2.2.1
  have hcapm : capm ≤ 9223372036854775807 := ha.2.1
  have hlm : m ≤ capm := ha.1
  have HB := Lib.hid hb
  have HA := Lib.hid ha
  clear hb ha
  by_cases hbig : 300 < n ∨ (¬ 300 < n ∧ 40 < m)
  · rcases hbig with h | ⟨h, h'⟩
    all_goals
      go_enter Try.func9, Try.ntmps9
      go_wp2_with (go_at_call 25; refine (awake2_any _).mono ?_; rintro e w2 ⟨rfl, hbel⟩; have hB := Lib.hid hbel; clear hbel)
      go_ret
      exact ⟨rfl, hB.out⟩
  · have h1 : n ≤ 300 := by omega
    have h2 : m ≤ 40 := by omega
    clear hbig
    by_cases hbad : p < 0 ∨ (0 ≤ p ∧ q < p) ∨ (0 ≤ p ∧ p ≤ q ∧ n < q)
    · have HBD := Lib.hid hbad
      rcases hbad with h | ⟨h, h'⟩ | ⟨h, h', h''⟩
      all_goals
        go_enter Try.func9, Try.ntmps9
        go_wp2_with fail
        refine (awake2_any _).mono ?_
        rintro e w2 ⟨rfl, hbel2⟩
        have B2 := Lib.hid hbel2
        clear hbel2
        go_wp2_with fail
        refine (New_any _ _ _ _ _ (HB.out.kept B2.out) (by omega)).mono ?_
        rintro e w3 ⟨f, g, rfl, hfl, hbel3, hf, hg⟩
        have HFl := Lib.hid hfl
        have B3 := Lib.hid hbel3
        clear hfl hbel3
        go_wp2_with fail
        refine (Cursor_bad w3 f g n l 0 (-1) p q HFl.out HBD.out).mono ?_
        rintro e w4 ⟨rfl, rfl⟩
        go_wp2_with fail
        go_ret
        exact ⟨rfl, B2.out.trans (B3.out.mono B2.out.size)⟩
    · obtain ⟨fr0, rfl⟩ := Int.eq_ofNat_of_zero_le (show 0 ≤ p by omega)
      obtain ⟨t0, rfl⟩ := Int.eq_ofNat_of_zero_le (show 0 ≤ q by omega)
      have hft : fr0 ≤ t0 := by omega
      have htn : t0 ≤ n := by omega
      clear hbad
      have hd1 : decide (t0 < fr0) = false := decide_eq_false (by omega)
      have hd2 : decide ((fr0 : Int) < 0) = false := decide_eq_false (by omega)
      have hd3 : decide (n < t0) = false := decide_eq_false (by omega)
      have hd4 : decide (300 < (n : Int)) = false := decide_eq_false (by omega)
      have hd5 : decide (40 < (m : Int)) = false := decide_eq_false (by omega)
      go_enter Try.func9, Try.ntmps9
      go_wp2_with fail
      refine (awake2_any _).mono ?_
      rintro e w2 ⟨rfl, hbel2⟩
      have B2 := Lib.hid hbel2
      clear hbel2
      go_wp2_with fail
      refine (New_any _ _ _ _ _ (HB.out.kept B2.out) (by omega)).mono ?_
      rintro e w3 ⟨f, g, rfl, hfl, hbel3, hf, hg⟩
      have HFl := Lib.hid hfl
      have B3 := Lib.hid hbel3
      clear hfl hbel3
      go_wp2_with fail
      refine (Cursor_ok w3 f g n l 0 (-1) fr0 t0 HFl.out hft htn).mono ?_
      rintro e w4 ⟨c, rfl, hst, hc, hbel4⟩
      have HR0 : Hid (CRel w f g c n l 0 fr0 t0 fr0 0 w4) := Lib.hid (by
        have q2 := B2.out.size
        have q3 := B3.out.size
        have b3 := B2.out.trans (B3.out.mono q2)
        exact ⟨hst, b3.trans (hbel4.mono b3.size), by omega, by omega, by omega⟩)
      clear hst hbel4 hc hf hg
      go_wp2_with fail
      go_loopw [1, 2, 11, 13, 14] (fun v1 v2 v11 v13 v14 wr => ∃ (k c r fr t a : Nat), k ≤ m ∧ fr ≤ a ∧ a ≤ t ∧ t ≤ n ∧ r ≤ 12 * k ∧ v14 = .int .i64 k ∧ v1 = .int .i64 fr ∧ v2 = .int .i64 t ∧ v11 = .pointer (some ⟨c, 0, none⟩) ∧ v13 = .int .i64 a ∧ Hid (CRel w f g c n l r fr t a k wr)) (fun _ _ _ _ v14 _ => m - (intOf v14).toNat)
      case atStart => exact ⟨0, c, 0, fr0, t0, fr0, by omega, Nat.le_refl _, hft, htn, by omega, rfl, rfl, rfl, rfl, rfl, HR0⟩
      case round =>
        obtain ⟨k, c1, r, fr, t, a, hk, hfa, hat, htn1, hr, rfl, rfl, rfl, rfl, rfl, HR⟩ := hrel
        by_cases hlt : k < m
        · obtain ⟨b, off, rfl, hbl, hcell⟩ := HA.out.2.2.2 (by omega)
          have d0 : wr.cell? ⟨b, off + k * 2, none⟩ = some (.int .u8 (K k : Nat)) := (HR.out.bel.cell (p := ⟨b, off + k * 2, none⟩) hbl).trans (hcell k hlt).1
          have d1 : wr.cell? ⟨b, off + k * 2 + 1, none⟩ = some (.int .i64 (V k)) := (HR.out.bel.cell (p := ⟨b, off + k * 2 + 1, none⟩) hbl).trans (hcell k hlt).2
          have hK := HA.out.2.2.1 k
          clear hcell hbl
          generalize K k = kd at *
          generalize V k = x at *
          have haa : ∀ z : Int, (z != z) = false := by simp
          have hq6 : ∃ q : Nat, ((kd : Int) % 6) = (q : Int) ∧ q < 6 := ⟨kd % 6, by omega, by omega⟩
          obtain ⟨q, hq, hq6⟩ := hq6
          have HQ := Lib.hid hq
          clear hq
          go_upto_block 2 with (fail)
          rw [HQ.out]
          go_cut [1, 2, 11, 13, 17, 18, 19, 20, 21, 22, 23, 24, 25, 26, 27, 28, 29, 30, 31, 32, 33] from 79 to 315 (fun v1 v2 v11 v13 _ _ _ _ _ _ _ _ _ _ _ _ _ _ _ _ _ wx => RR w f g n k l v1 v2 v11 v13 wx)
          case first =>
            have hqq : q = 0 ∨ q = 1 ∨ q = 2 ∨ q = 3 ∨ q = 4 ∨ q = 5 := by omega
            clear hq6 HQ
            rcases hqq with rfl | rfl | rfl | rfl | rfl | rfl
            · as_aux_lemma =>
              by_cases hA : a < t
              · go_wp2_with fail
                refine (Byte_ok wr f g c1 n l r (-1) fr t a HR.out.st hA (by omega) (.inl (by omega))).mono ?_
                rintro e w6 ⟨rfl, hst6, hfr6⟩
                have HC6 := Lib.hid (HR.out.to hfr6 hst6 (by omega))
                obtain ⟨b0, off0, rfl, _, hc0⟩ := byt_zero (HB.out.kept HC6.out.bel) a (by omega)
                clear hst6 hfr6
                generalize l.getD a 0 = z at *
                go_wp2_with fail
                go_meet
                exact ⟨c1, r + 1, fr, t, a + 1, by omega, by omega, htn1, by omega, rfl, rfl, rfl, by go_num, HC6⟩
              · go_wp2_with fail
                refine (Byte_bad wr f g c1 n l r (-1) fr t a HR.out.st (by omega)).mono ?_
                rintro e w6 ⟨rfl, k6, rfl⟩
                go_wp2_with fail
                go_meet
                exact ⟨c1, r, fr, t, a, hfa, hat, htn1, by omega, rfl, rfl, rfl, rfl, Lib.hid ((HR.out.drewN k6).up)⟩
            · as_aux_lemma =>
              by_cases hA : 0 ≤ x ∧ x ≤ (t : Int) - (a : Int)
              · obtain ⟨x0, rfl⟩ := Int.eq_ofNat_of_zero_le hA.1
                have hx0 : a + x0 ≤ t := by omega
                clear hA
                have hcut : ∀ W, (Instr.slice 22 (.slice A n cap) (some (.int .i64 (a : Int))) (some (.int .i64 ((a : Int) + (x0 : Int)))) none).run Try.prog W = .ok (.slice (cutA A cap a) x0 (cap - a)) W := fun W => by
                  have := cut_run A n cap a (a + x0) ((a : Int) + (x0 : Int)) (by omega) (by omega) (by omega) W
                  rw [Nat.add_sub_cancel_left] at this
                  exact this
                obtain ⟨L, hL⟩ : ∃ L, L = (l.drop a).take x0 := ⟨_, rfl⟩
                have HL : Hid (Byt wr (cutA A cap a) x0 (cap - a) L) := Lib.hid (by
                  have := cut_byt (b := a + x0) (HB.out.kept HR.out.bel) (Nat.le_add_right a x0) (by omega)
                  rw [Nat.add_sub_cancel_left, ← hL] at this
                  exact this)
                go_wp2_with fail
                refine (Take_ok wr f g c1 n l r (-1) fr t a x0 HR.out.st hx0 (by omega) (.inl (by omega))).mono ?_
                rintro e w6 ⟨b6, rfl, hby6, hst6, hfr6⟩
                rw [← hL] at hby6
                have HC6 := Lib.hid (HR.out.to hfr6 hst6 (by omega))
                have hcb : Byt w6 (cutA A cap a) x0 (cap - a) L := by
                  have := cut_byt (b := a + x0) (HB.out.kept HC6.out.bel) (Nat.le_add_right a x0) (by omega)
                  rw [Nat.add_sub_cancel_left, ← hL] at this
                  exact this
                have hv1 : ∀ n', (convert 22 9 (.slice (some ⟨b6, 0, none⟩) x0 x0)).run Try.prog (w6.drewN n') = .ok (.string (str L)) (w6.drewN n') := fun n' => conv_byt (hby6.drewN n')
                have hv2 : ∀ n', (convert 22 9 (.slice (cutA A cap a) x0 (cap - a))).run Try.prog (w6.drewN n') = .ok (.string (str L)) (w6.drewN n') := fun n' => conv_byt (hcb.drewN n')
                have hss : ((str L).toList != (str L).toList) = false := by simp
                clear hL hby6 hst6 hfr6 hcb HL
                go_wp2_with fail
                go_quiet (fail)
                go_wp2_with fail
                go_meet
                exact ⟨c1, r + 1, fr, t, a + x0, by omega, hx0, htn1, by omega, rfl, rfl, rfl, by go_num, Lib.hid (HC6.out.drewN _)⟩
              · have hA2 : (x < 0) ∨ (0 ≤ x ∧ (t : Int) - (a : Int) < x) := by omega
                clear hA
                rcases hA2 with hA2 | ⟨hA2, hA3⟩
                · have e1 : hs x ((t : Int) - (a : Int)) = 1 := by unfold hs; rw [if_pos hA2]
                  have HPb := Lib.hid (Take_bad wr f g c1 n l r (-1) fr t a x HR.out.st (by rw [e1]; decide))
                  rw [e1] at HPb
                  clear e1
                  go_wp2_with fail
                  refine HPb.out.mono ?_
                  rintro e w6 ⟨rfl, k6, rfl⟩
                  go_wp2_with fail
                  go_meet
                  exact ⟨c1, r, fr, t, a, hfa, hat, htn1, by omega, rfl, rfl, rfl, rfl, Lib.hid ((HR.out.drewN k6).up)⟩
                · have e1 : hs x ((t : Int) - (a : Int)) = 3 := by unfold hs; rw [if_neg (by omega), if_pos hA3]
                  have HPb := Lib.hid (Take_bad wr f g c1 n l r (-1) fr t a x HR.out.st (by rw [e1]; decide))
                  rw [e1] at HPb
                  clear e1
                  go_wp2_with fail
                  refine HPb.out.mono ?_
                  rintro e w6 ⟨rfl, k6, rfl⟩
                  go_wp2_with fail
                  go_meet
                  exact ⟨c1, r, fr, t, a, hfa, hat, htn1, by omega, rfl, rfl, rfl, rfl, Lib.hid ((HR.out.drewN k6).up)⟩
            · as_aux_lemma =>
              have hcut : ∀ W, (Instr.slice 22 (.slice A n cap) (some (.int .i64 (a : Int))) (some (.int .i64 (t : Int))) none).run Try.prog W = .ok (.slice (cutA A cap a) (t - a) (cap - a)) W := fun W => cut_run A n cap a t (t : Int) rfl hat (by omega) W
              go_wp2_with fail
              refine (cUnsigned wr f g c1 n l r (-1) fr t a x HR.out.st (by omega)).mono ?_
              rintro e w6 ⟨u1, u3, r6, a6, rfl, hst6, hfr6, hr1, hr2, hor⟩
              obtain ⟨hu1, hu3, ha6⟩ : u1 = (Leb.uns ((l.drop a).take (t - a)) x).1 ∧ u3 = (Leb.uns ((l.drop a).take (t - a)) x).2.2 ∧ a6 = a + (Leb.uns ((l.drop a).take (t - a)) x).2.1 := by
                rcases hor with h | h
                · omega
                · exact h
              have HC6 := Lib.hid (HR.out.to hfr6 hst6 (by omega))
              have hb6 := cut_byt (b := t) (HB.out.kept HC6.out.bel) hat htn1
              have HF := refU_any (cutA A cap a) (t - a) (cap - a) _ x w6 hb6 (by omega)
              rw [← hu1, ← hu3] at HF
              obtain ⟨u2, hu2⟩ : ∃ u2, u2 = (Leb.uns ((l.drop a).take (t - a)) x).2.1 := ⟨_, rfl⟩
              rw [← hu2] at HF ha6
              have HF := Lib.hid HF
              have HA6 := Lib.hid ha6
              have h61 := hst6.h1
              have h62 := hst6.h2
              have hau : a + u2 ≤ t := by omega
              have hne1 : ∀ z : Int, (z != z) = false := by simp
              have hne2 : ∀ z : Nat, (z != z) = false := by simp
              clear hor hu1 hu3 hu2 hb6 hst6 hfr6 ha6
              go_wp2_with fail
              refine HF.out.mono ?_
              rintro e w7 ⟨rfl, hb7⟩
              have HC7 := Lib.hid (HC6.out.mv hb7)
              clear hb7
              go_wp2_with fail
              go_meet
              exact ⟨c1, r6, fr, t, a6, h61, h62, htn1, by omega, rfl, rfl, rfl, by rw [HA6.out]; go_num, HC7⟩
            · as_aux_lemma =>
              have hcut : ∀ W, (Instr.slice 22 (.slice A n cap) (some (.int .i64 (a : Int))) (some (.int .i64 (t : Int))) none).run Try.prog W = .ok (.slice (cutA A cap a) (t - a) (cap - a)) W := fun W => cut_run A n cap a t (t : Int) rfl hat (by omega) W
              go_wp2_with fail
              refine (cSigned wr f g c1 n l r (-1) fr t a x HR.out.st (by omega)).mono ?_
              rintro e w6 ⟨u1, u3, r6, a6, rfl, hst6, hfr6, hr1, hr2, hor⟩
              obtain ⟨hu1, hu3, ha6⟩ : u1 = (Leb.sgn ((l.drop a).take (t - a)) x).1 ∧ u3 = (Leb.sgn ((l.drop a).take (t - a)) x).2.2 ∧ a6 = a + (Leb.sgn ((l.drop a).take (t - a)) x).2.1 := by
                rcases hor with h | h
                · omega
                · exact h
              have HC6 := Lib.hid (HR.out.to hfr6 hst6 (by omega))
              have hb6 := cut_byt (b := t) (HB.out.kept HC6.out.bel) hat htn1
              have HF := refS_any (cutA A cap a) (t - a) (cap - a) _ x w6 hb6 (by omega)
              rw [← hu1, ← hu3] at HF
              obtain ⟨u2, hu2⟩ : ∃ u2, u2 = (Leb.sgn ((l.drop a).take (t - a)) x).2.1 := ⟨_, rfl⟩
              rw [← hu2] at HF ha6
              have HF := Lib.hid HF
              have HA6 := Lib.hid ha6
              have h61 := hst6.h1
              have h62 := hst6.h2
              have hau : a + u2 ≤ t := by omega
              have hne1 : ∀ z : Int, (z != z) = false := by simp
              have hne2 : ∀ z : Nat, (z != z) = false := by simp
              clear hor hu1 hu3 hu2 hb6 hst6 hfr6 ha6
              go_wp2_with fail
              refine HF.out.mono ?_
              rintro e w7 ⟨rfl, hb7⟩
              have HC7 := Lib.hid (HC6.out.mv hb7)
              clear hb7
              go_wp2_with fail
              go_meet
              exact ⟨c1, r6, fr, t, a6, h61, h62, htn1, by omega, rfl, rfl, rfl, by rw [HA6.out]; go_num, HC7⟩
            · as_aux_lemma =>
              by_cases hA : (fr : Int) ≤ x ∧ x ≤ (t : Int)
              · obtain ⟨x0, rfl⟩ := Int.eq_ofNat_of_zero_le (show 0 ≤ x by omega)
                obtain ⟨hA1, hA2⟩ := hA
                go_wp2_with fail
                refine (Go_yes wr c1 f fr t a x0 HR.out.st.cu hA1 hA2).mono ?_
                rintro e w6 ⟨rfl, rfl⟩
                have hmv := HR.out.st.moved x0 (by omega) (by omega)
                have HC6 := Lib.hid (HR.out.to ((Fr.refl (FC f c1) wr).set_ (p := ⟨c1, 3, none⟩) (.inr rfl) (.int .i64 (x0 : Nat))) hmv (by omega))
                clear hmv
                go_wp2_with fail
                go_meet
                exact ⟨c1, r, fr, t, x0, by omega, by omega, htn1, by omega, rfl, rfl, rfl, rfl, HC6⟩
              · have hA2 : x < fr ∨ ((fr : Int) ≤ x ∧ (t : Int) < x) := by omega
                clear hA
                rcases hA2 with hA2 | ⟨hA2, hA3⟩
                · go_wp2_with fail
                  refine (Go_no wr c1 f fr t a x HR.out.st.cu (.inl hA2)).mono ?_
                  rintro e w6 ⟨rfl, rfl⟩
                  go_wp2_with fail
                  go_meet
                  exact ⟨c1, r, fr, t, a, hfa, hat, htn1, by omega, rfl, rfl, rfl, rfl, Lib.hid HR.out.up⟩
                · go_wp2_with fail
                  refine (Go_no wr c1 f fr t a x HR.out.st.cu (.inr ⟨hA2, hA3⟩)).mono ?_
                  rintro e w6 ⟨rfl, rfl⟩
                  go_wp2_with fail
                  go_meet
                  exact ⟨c1, r, fr, t, a, hfa, hat, htn1, by omega, rfl, rfl, rfl, rfl, Lib.hid HR.out.up⟩
            · as_aux_lemma =>
              by_cases hA : 0 ≤ x ∧ x ≤ (t : Int) - (a : Int)
              · obtain ⟨x0, rfl⟩ := Int.eq_ofNat_of_zero_le hA.1
                have hx0 : a + x0 ≤ t := by omega
                clear hA
                go_wp2_with fail
                refine (Part_ok wr f g c1 n l r (-1) fr t a x0 HR.out.st hx0).mono ?_
                rintro e w5 ⟨p5, rfl, hst5, hblk5, hp5, hfr5⟩
                have HP5 := Lib.hid (St.mk hst5.fl hblk5 (Nat.le_refl a) (Nat.le_add_right a x0) (Nat.le_trans hst5.h2 hst5.h3))
                have HC5 := Lib.hid (HR.out.part hfr5 HP5.out hp5)
                have HAt := Lib.hid (At_any w5 c1 f fr t (a + x0) hst5.cu)
                have hca : (((a + x0 : Nat) : Int) != (a : Int) + (x0 : Int)) = false := by simp
                clear hst5 hblk5 hfr5 hp5
                go_wp2_with fail
                refine HAt.out.mono ?_
                rintro e w7 ⟨rfl, rfl⟩
                go_wp2_with fail
                go_meet
                exact ⟨p5, r, a, a + x0, a, Nat.le_refl _, by omega, by omega, by omega, rfl, by go_num, rfl, rfl, HC5⟩
              · have hA2 : (x < 0) ∨ (0 ≤ x ∧ (t : Int) - (a : Int) < x) := by omega
                clear hA
                rcases hA2 with hA2 | ⟨hA2, hA3⟩
                · have e1 : hs x ((t : Int) - (a : Int)) = 1 := by unfold hs; rw [if_pos hA2]
                  have HPb := Lib.hid (Part_bad wr f g c1 n l r (-1) fr t a x HR.out.st (by rw [e1]; decide))
                  rw [e1] at HPb
                  clear e1
                  go_wp2_with fail
                  refine HPb.out.mono ?_
                  rintro e w6 ⟨rfl, k6, rfl⟩
                  go_wp2_with fail
                  go_meet
                  exact ⟨c1, r, fr, t, a, hfa, hat, htn1, by omega, rfl, rfl, rfl, rfl, Lib.hid ((HR.out.drewN k6).up)⟩
                · have e1 : hs x ((t : Int) - (a : Int)) = 3 := by unfold hs; rw [if_neg (by omega), if_pos hA3]
                  have HPb := Lib.hid (Part_bad wr f g c1 n l r (-1) fr t a x HR.out.st (by rw [e1]; decide))
                  rw [e1] at HPb
                  clear e1
                  go_wp2_with fail
                  refine HPb.out.mono ?_
                  rintro e w6 ⟨rfl, k6, rfl⟩
                  go_wp2_with fail
                  go_meet
                  exact ⟨c1, r, fr, t, a, hfa, hat, htn1, by omega, rfl, rfl, rfl, rfl, Lib.hid ((HR.out.drewN k6).up)⟩
          case rest =>
            as_aux_lemma =>
              obtain ⟨c2, r2, fr2, t2, a2, hc1, hc2, hc3, hc4, rfl, rfl, rfl, rfl, HC⟩ := hcut
              go_wp2_with fail
              refine (At_any wc c2 f fr2 t2 a2 HC.out.st.cu).mono ?_
              rintro e w7 ⟨rfl, rfl⟩
              go_wp2_with fail
              refine (Left_any wc c2 f fr2 t2 a2 HC.out.st.cu hc2 (by have := HC.out.st.h3; have := HC.out.st.fl.lim; omega)).mono ?_
              rintro e w8 ⟨rfl, k8, rfl⟩
              go_wp2_with fail
              go_roundw
              case rel => first | exact ⟨k + 1, c2, r2, fr2, t2, a2, by omega, hc1, hc2, hc3, by omega, by go_num, rfl, rfl, rfl, rfl, Lib.hid (HC.out.drewN k8)⟩ | ((repeat apply Exists.intro); exact ⟨⟨k + 1, c2, r2, fr2, t2, a2, by omega, hc1, hc2, hc3, by omega, by go_num, rfl, rfl, rfl, rfl, Lib.hid (HC.out.drewN k8)⟩, rfl⟩)
              case measure => simp [intOf]; omega
        · go_wp2_with fail
          go_ret
          exact ⟨rfl, HR.out.bel⟩
end Go.Proofs.Ytchdcimmbmphnaa
