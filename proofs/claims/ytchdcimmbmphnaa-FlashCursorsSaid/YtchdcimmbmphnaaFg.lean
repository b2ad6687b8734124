/-
  The given example of the second layer (awake): true, and nothing that was there is changed.
-/
import Derived.Test.YtchdcimmbmphnaaFf
namespace Go.Proofs.Ytchdcimmbmphnaa
open Go.RowKit
set_option linter.unusedVariables false
theorem str12 : (str [1, 2]).toList = [1, 2] := by rw [str_toList]; rfl
set_option maxHeartbeats 1000000 in
set_option maxRecDepth 100000 in
theorem awake2_any (w : World) :
    Calls Try.prog 25 #[] w fun e w' => e = .returned (.bool true) ∧ Below w.heap.size w w' := by
  have hb := Lib.hid (byt_alloc w [1, 2, 3] 5 _ rfl (by decide) 3 rfl (by decide))
  go_enter Try.func25, Try.ntmps25
  go_wp2_with fail
  refine (New_any _ _ _ _ _ hb.out (by omega)).mono ?_
  rintro e w1 ⟨f, g, rfl, hfl, hb1, hf, hg⟩
  have HFl := Lib.hid hfl
  have HB1 := Lib.hid hb1
  clear hfl hb1
  go_wp2_with fail
  refine (Cursor_ok w1 f g 3 [1, 2, 3] 0 (-1) 0 3 HFl.out (by omega) (by omega)).mono ?_
  rintro e w2 ⟨c, rfl, hst, hc, hb2⟩
  have HSt := Lib.hid hst
  have HB2 := Lib.hid hb2
  clear hst hb2
  go_wp2_with fail
  refine (Take_ok w2 f g c 3 [1, 2, 3] 0 (-1) 0 3 0 2 HSt.out (by omega) (by omega) (.inl (by omega))).mono ?_
  rintro e w3 ⟨b, rfl, hby, hst3, hfr3⟩
  have HSt3 := Lib.hid hst3
  have HFr3 := Lib.hid hfr3
  have hcv : (convert 22 9 (.slice (some ⟨b, 0, none⟩) 2 2)).run Try.prog w3 = .ok (.string (str [1, 2])) w3 := conv_byt hby
  clear hby hst3 hfr3
  have hs := str12
  have HL := Lib.hid (Left_any w3 c f 0 3 2 HSt3.out.cu (by omega) (by omega))
  go_wp2_with fail
  refine HL.out.mono ?_
  rintro e w4 ⟨rfl, k, rfl⟩
  have HR := Lib.hid (Reads_any (w3.drewN k) f g 3 [1, 2, 3] 1 (-1) (HSt3.out.drewN k).fl (by omega))
  go_wp2_with fail
  refine HR.out.mono ?_
  rintro e w5 ⟨rfl, rfl⟩
  go_wp2_with fail
  go_ret
  have q1 : Below w.heap.size w w1 := ((Below.refl w.heap.size w).alloc (Nat.le_refl _) _).trans (HB1.out.mono (by simp))
  have q2 : Below w.heap.size w w2 := q1.trans (HB2.out.mono q1.size)
  have hcc : w.heap.size ≤ c := Nat.le_trans q1.size hc
  have hff : w.heap.size ≤ f := by simp at hf; omega
  exact ⟨rfl, (HFr3.out.drewN k).below q2 q2.size (fun i hi => by rcases hi with rfl | rfl <;> assumption)⟩
end Go.Proofs.Ytchdcimmbmphnaa
