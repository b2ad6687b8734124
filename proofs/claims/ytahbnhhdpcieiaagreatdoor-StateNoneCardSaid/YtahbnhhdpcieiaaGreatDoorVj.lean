/-
  state.New of the example; Global of its second one; the law's first question (awake).
-/
import Derived.Test.YtahbnhhdpcieiaaGreatDoorVi
namespace Go.Proofs.YtahbnhhdpcieiaaGreatDoor
open Go.RowKit
set_option linter.unusedVariables false
set_option linter.unusedSimpArgs false
section
variable {w w' : World} {s g b a p bb rm gm : Nat} {num gl tb : Int} {d : Ad}
set_option maxRecDepth 100000 in
theorem begin_ok (H : SA w s g b a p bb rm gm num 0 0 d) (h0 : d.height = 0) (ho : d.ops < 100) :
    Calls Tryz.prog 41 #[.pointer (some ⟨s, 0, none⟩)] w fun e w' => e = .returned (.tuple #[.int .i64 0, .int .i64 0]) ∧ (∃ d', SA w' s g b a p bb rm gm num 0 16 d' ∧ wdN d'.mem 8 8 = 6) ∧ Fr (sS a bb rm gm s) w w' := by
  have H1 := Lib.hid (fitting_none H.st)
  have H2 := Lib.hid (load_none H.st)
  have H3 := Lib.hid (fill_ok H h0 ho)
  clear H
  go_enter Tryz.func41, Tryz.ntmps41
  go_wp2_with (first
    | (go_at_call 77; refine H1.out.mono ?_; rintro e w1 ⟨rfl, rfl⟩)
    | (go_at_call 78; refine H2.out.mono ?_; rintro e w1 ⟨rfl, rfl⟩)
    | (go_at_call 79; refine H3.out.mono ?_; rintro e w1 ⟨rfl, hE, hF⟩; have HE := Lib.hid (And.intro hE hF); clear hE hF))
  go_ret2
  exact ⟨rfl, HE.out⟩
set_option maxHeartbeats 2000000 in
set_option maxRecDepth 100000 in
/-- New of a module of two globals, in an arena that is new -/
theorem New_two (hm : Blk w g 92 (ZG (.slice (some ⟨b, 0, none⟩) 2 2))) (hb : Blk w b 60 G2) (hA : Are w a bb rm gm d) (hd : d = nuA 1000) :
    Calls Tryz.prog 11 #[.pointer (some ⟨g, 0, none⟩), .pointer (some ⟨a, 0, none⟩), .pointer (some ⟨p, 0, none⟩), .int .i64 0] w fun e w' => ∃ s, e = .returned (.tuple #[.pointer (some ⟨s, 0, none⟩), .int .i64 0, .int .i64 0]) ∧ (∃ d', SA w' s g b a p bb rm gm 0 0 16 d' ∧ wdN d'.mem 8 8 = 6) ∧ Fr (arb a bb rm gm) w w' := by
  have HI := Lib.hid (Is_two g b w hm hb)
  have HM := Lib.hid (And.intro hm (And.intro hb hA))
  clear hm hb hA
  have hq : ∀ W, (binOp .eql 35 (.pointer (some ⟨a, 0, none⟩)) (.pointer none)).run Tryz.prog W = .ok (.bool false) W := fun W => by kernel_rfl
  have hq2 : ∀ W, (binOp .eql 45 (.pointer (some ⟨p, 0, none⟩)) (.pointer none)).run Tryz.prog W = .ok (.bool false) W := fun W => by kernel_rfl
  go_enter Tryz.func11, Tryz.ntmps11
  go_wp2_with (first
    | (go_at_call 36; refine HI.out.mono ?_; rintro e w1 ⟨rfl, hb1⟩
       have HB1 := Lib.hid hb1
       have hX : SA (w1.alloc (.cells (stC g a p 0 0 0) 100)) w1.heap.size g b a p bb rm gm 0 0 0 d := by
         obtain ⟨hm, hb, hA⟩ := HM.out
         have hf : Fr (fun _ => False) w (w1.alloc (.cells (stC g a p 0 0 0) 100)) := (Fr.of_below hb1).alloc _
         exact ⟨⟨Blk.new w1 100 _, hm.fr hf (fun q => q), hb.fr hf (fun q => q)⟩, hA.fr hf (fun k _ q => q), by rw [hd]; exact fun _ => rfl, by rw [hd]; rfl, by rw [hd]; exact (by decide : (0 : Nat) < 1000)⟩
       unfold stC at hX
       have HX := Lib.hid hX
       have HW := Lib.hid (words_ok hX.st)
       have HP := Lib.hid (places_ok hX.st)
       have HR := Lib.hid (rooms_ok hX.ar (by rw [hd]; exact (by decide : 0 + 32 ≤ 1000)))
       have HO := Lib.hid (open_none hX.st)
       have HG := Lib.hid (begin_ok hX (by rw [hd]; rfl) (by rw [hd]; exact (by decide : (0 : Nat) < 100)))
       clear hX hb1)
    | (go_at_call 38; refine HW.out.mono ?_; rintro e w2 ⟨rfl, rfl⟩)
    | (go_at_call 39; refine HP.out.mono ?_; rintro e w2 ⟨rfl, rfl⟩)
    | (go_at_call 37; refine HR.out.mono ?_; rintro e w2 ⟨rfl, rfl⟩)
    | (go_at_call 40; refine HO.out.mono ?_; rintro e w2 ⟨rfl, rfl⟩)
    | (go_at_call 41; refine HG.out.mono ?_; rintro e w2 ⟨rfl, hE, hF⟩; have HE := Lib.hid (And.intro hE hF); clear hE hF))
  go_ret3
  refine ⟨w1.heap.size, rfl, HE.out.1, ?_⟩
  have hs := HB1.out.size
  exact ((Fr.of_below HB1.out).alloc _).trans_new HE.out.2 (fun q hq => by
    rcases hq with h | h
    · exact .inl h
    · exact .inr (by omega))
set_option maxRecDepth 100000 in
theorem Global_one (H : SA w s g b a p bb rm gm num 0 tb d) (h6 : wdN d.mem 8 8 = 6) : Calls Tryz.prog 30 #[.pointer (some ⟨s, 0, none⟩), .int .i64 1] w fun e w' => e = .returned (.tuple #[.int .u64 6, .int .i64 0]) ∧ ∃ k, w.drewN k = w' := by
  have HH := Lib.hid (has_one H.st)
  have c1 : w.cell? ⟨s, 1, none⟩ = some (.pointer (some ⟨a, 0, none⟩)) := H.st.blk.cell 1
  have c5 : w.cell? ⟨s, 5, none⟩ = some (.int .i64 0) := H.st.blk.cell 5
  have HG : Hid (∀ k, Calls Tryz.prog 56 #[.pointer (some ⟨a, 0, none⟩), .int .i64 8, .int .i64 8] (w.drewN k) fun e w' => e = .returned (.tuple #[.int .u64 6, .int .i64 0]) ∧ w.drewN k = w') := Lib.hid (fun k => by
    have h := Get_ok a bb rm gm d 8 8 (w.drewN k) (H.ar.drewN k) (.inr rfl) (by have := H.sz; omega)
    rw [h6] at h
    exact h)
  clear H
  go_enter Tryz.func30, Tryz.ntmps30
  go_wp2_with (go_at_call 52; refine HH.out.mono ?_; rintro e w2 ⟨rfl, rfl⟩)
  go_quiet (first | (go_at_call 56; exact quiet_left (HG.out _)))
  go_wp2
  go_ret2
  exact ⟨rfl, _, rfl⟩
end
end Go.Proofs.YtahbnhhdpcieiaaGreatDoor
