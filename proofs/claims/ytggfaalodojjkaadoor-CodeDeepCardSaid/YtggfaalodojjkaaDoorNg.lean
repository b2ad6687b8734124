/-
  code's nest: step.
-/
import Derived.Test.YtggfaalodojjkaaDoorNf
namespace Go.Proofs.YtggfaalodojjkaaDoor
open Go.RowKit
set_option linter.unusedVariables false
set_option linter.unusedSimpArgs false
/-- one instruction gone over -/
def spN (n : Ne) (c : Int) : Int × Ne := if (stN n c).1 = 0 then (0, { (stN n c).2 with pos := (stN n c).2.pos + 1 }) else stN n c
theorem Nst.pos_ {B b : Nat} {w : World} {n : Ne} {sv ov : Value} (h : Nst B w b n sv ov) (d : Nat) (hd : d ≤ 100000) (u : Value) (hu : u = .int .i64 d) :
    Nst B (w.setCell ⟨b, 0, none⟩ u) b { n with pos := d } sv ov ∧ Fr (fun k => B ≤ k) w (w.setCell ⟨b, 0, none⟩ u) := by
  subst hu
  have hs : Fr (fun k => k = b) w (w.setCell ⟨b, 0, none⟩ (.int .i64 d)) := (Fr.refl (fun k => k = b) w).set_ (p := ⟨b, 0, none⟩) rfl _
  exact ⟨⟨h.blk.set_ 0 _, h.hb, own_fr h.sr hs (fun k hk e => (h.ne_s k hk).1 e), own_fr h.orr hs (fun k hk e => (h.ne_o k hk).1 e), hd, h.sl, h.ol, h.dl⟩, hs.more (fun k hk => by rw [hk]; exact h.hb)⟩
theorem stN_pos (n : Ne) (c : Int) : (stN n c).2.pos = n.pos := by
  unfold stN
  split
  · rfl
  · split
    · split <;> rfl
    · split
      · split <;> rfl
      · split
        · split <;> rfl
        · rfl
theorem spN_yes (n : Ne) (c : Int) (h : (stN n c).1 = 0) : spN n c = (0, { (stN n c).2 with pos := (stN n c).2.pos + 1 }) := by unfold spN; rw [if_pos h]
theorem spN_no (n : Ne) (c : Int) (h : (stN n c).1 ≠ 0) : spN n c = stN n c := by unfold spN; rw [if_neg h]
set_option maxHeartbeats 4000000 in
set_option maxRecDepth 100000 in
theorem step_ok (B b : Nat) (n : Ne) (sv ov : Value) (c : Int) (w : World) (h : Nst B w b n sv ov) (hv : n.ok) (hs : n.sp.length ≤ 100000) (hp : n.pos < 100000) (hBw : B ≤ w.heap.size) :
    Calls Tryd.prog 39 #[.pointer (some ⟨b, 0, none⟩), .int .i64 c] w (NsP B b (spN n c).2 (spN n c).1 w) := by
  have HS : Hid (Calls Tryd.prog 47 #[.pointer (some ⟨b, 0, none⟩), .int .i64 c] w (StP B b n c w)) := Lib.hid (stand_ok B b n sv ov c w h hv hs hBw)
  have HP : Hid ((stN n c).2.pos + 1 ≤ 100000) := Lib.hid (by rw [stN_pos]; omega)
  clear h hv hs hp hBw
  by_cases hr : (stN n c).1 = 0
  · have HR := Lib.hid hr
    rw [spN_yes n c hr]
    clear hr
    go_enter Tryd.func39, Tryd.ntmps39
    go_wp2_with (go_at_call 47; (with_reducible refine HS.out.mono ?_); rintro e w1 ⟨rfl, sv1, ov1, hN, hF⟩
                 rw [HR.out]
                 have x0 := hN.blk.cell 0
                 have z0 := hN.blk.frozen 0
                 have HN := Lib.hid hN
                 have HF := Lib.hid hF
                 clear hN hF)
    go_ret
    have hq := HP.out
    obtain ⟨k1, k2⟩ := HN.out.pos_ ((stN n c).2.pos + 1) hq (.int .i64 (wrap64 (((stN n c).2.pos : Int) + 1))) (by congr 1; unfold wrap64; omega)
    exact ⟨rfl, _, _, k1, HF.out.trans k2⟩
  · have HR := Lib.hid hr
    rw [spN_no n c hr]
    have e1 : ((stN n c).1 == 0) = false := by simpa using hr
    clear hr
    go_enter Tryd.func39, Tryd.ntmps39
    go_wp2_with (go_at_call 47; (with_reducible refine HS.out.mono ?_); rintro e w1 ⟨rfl, sv1, ov1, hN, hF⟩
                 have HN := Lib.hid hN
                 have HF := Lib.hid hF
                 clear hN hF)
    go_ret
    exact ⟨rfl, _, _, HN.out, HF.out⟩
end Go.Proofs.YtggfaalodojjkaaDoor
