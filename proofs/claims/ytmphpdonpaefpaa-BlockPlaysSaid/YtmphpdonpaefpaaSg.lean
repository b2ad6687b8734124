/-
  The given example of the third layer (awake): true, and nothing that was there is changed.
-/
import Derived.Test.YtmphpdonpaefpaaSf
namespace Go.Proofs.Ytmphpdonpaefpaa
open Go.RowKit
set_option linter.unusedVariables false
def sm (s m : Nat) (k : Nat) : Prop := k = s ∨ k = m
/-- a store that the call made, and all that it has done since -/
theorem below_sm {w0 w w' : World} {s m : Nat} (hb : Below w0.heap.size w0 w) (hs : w0.heap.size ≤ s) (hm : w0.heap.size ≤ m) (hf : Fr (fun k => k = s ∨ k = m) w w') : Below w0.heap.size w0 w' :=
  hf.below hb hb.size (fun k hk => by rcases hk with rfl | rfl <;> assumption)
theorem below_s {w0 w w' : World} {s : Nat} (hb : Below w0.heap.size w0 w) (hs : w0.heap.size ≤ s) (hf : Fr (· = s) w w') : Below w0.heap.size w0 w' :=
  hf.below hb hb.size (fun k hk => by rw [hk]; exact hs)
set_option maxHeartbeats 1000000 in
set_option maxRecDepth 100000 in
theorem awake3_any (w : World) : Calls Try.prog 12 #[] w fun e w' => e = .returned (.bool true) ∧ Below w.heap.size w w' := by
  go_enter Try.func12, Try.ntmps12
  go_wp2_with fail
  refine (SNew_ok 16 5 _ (by omega) (by omega) (by omega)).mono ?_
  rintro e w1 ⟨s, m, rfl, h1, b1, hs, hm⟩
  have H1 := Lib.hid h1
  have B1 := Lib.hid b1
  clear h1 b1
  go_wp2_with fail
  refine (Alloc_ok s m _ w1 H1.out (by decide) (Sd.fl_no (by decide)) (by decide)).mono ?_
  rintro e w2 ⟨L, G, rfl, hL, hG, h2, f2⟩
  obtain rfl := Low_uniq hL (k := 0) rfl (fun i hi => absurd hi (Nat.not_lt_zero _))
  have H2 := Lib.hid h2
  have B2 := Lib.hid (below_sm B1.out hs hm f2)
  clear h2 f2 hL hG
  go_wp2_with fail
  refine (Alloc_ok s m _ w2 H2.out (by show (1 : Nat) < 1000000; decide) (Sd.fl_no (by show (-1 : Int) < 0; decide)) (by show (1 : Nat) < 5; decide)).mono ?_
  rintro e w3 ⟨L, G2, rfl, hL, hG, h3, f3⟩
  have hb1 : ∀ i, i < 1 → (((nu 16 5).op.al 0 G).op.B i).isSome := fun i hi => by
    have : i = 0 := by omega
    subst this; rfl
  obtain rfl := Low_uniq hL (k := 1) rfl hb1
  have H3 := Lib.hid h3
  have B3 := Lib.hid (below_sm B2.out hs hm f3)
  clear h3 f3 hL hG
  go_wp2_with fail
  refine (Free_ok s m _ 0 w3 H3.out rfl (by show (2 : Nat) < 1000000; decide) (Sd.fl_no (by show (-1 : Int) < 0; decide))).mono ?_
  rintro e w4 ⟨rfl, h4, f4⟩
  have H4 := Lib.hid h4
  have B4 := Lib.hid (below_sm B3.out hs hm f4)
  clear h4 f4
  go_wp2_with fail
  refine (Alloc_ok s m _ w4 H4.out (by show (3 : Nat) < 1000000; decide) (Sd.fl_no (by show (-1 : Int) < 0; decide)) (by show (1 : Nat) < 5; decide)).mono ?_
  rintro e w5 ⟨L, G3, rfl, hL, hG, h5, f5⟩
  obtain rfl := Low_uniq hL (k := 0) rfl (fun i hi => absurd hi (Nat.not_lt_zero _))
  have H5 := Lib.hid h5
  have B5 := Lib.hid (below_sm B4.out hs hm f5)
  clear h5 f5 hL hG
  have HU : Hid (Calls Try.prog 19 #[.pointer (some ⟨s, 0, none⟩)] w5 fun e w' => e = .returned (.int .i64 2) ∧ w5 = w') := Lib.hid (Used_any H5.out)
  have HP : Hid (Calls Try.prog 20 #[.pointer (some ⟨s, 0, none⟩)] w5 fun e w' => e = .returned (.int .i64 2) ∧ w5 = w') := Lib.hid (Peak_any H5.out)
  go_wp2_with (first
    | (go_at_call 19; refine HU.out.mono ?_; rintro e w' ⟨rfl, rfl⟩)
    | (go_at_call 20; refine HP.out.mono ?_; rintro e w' ⟨rfl, rfl⟩))
  go_ret
  exact ⟨rfl, B5.out⟩
end Go.Proofs.Ytmphpdonpaefpaa
