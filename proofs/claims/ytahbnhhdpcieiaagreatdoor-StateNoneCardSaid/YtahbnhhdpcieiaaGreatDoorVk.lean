/-
  What comes of no state; the law's first question (awake); StateNone's walk.
-/
import Derived.Test.YtahbnhhdpcieiaaGreatDoorVj
namespace Go.Proofs.YtahbnhhdpcieiaaGreatDoor
open Go.RowKit
set_option linter.unusedVariables false
set_option linter.unusedSimpArgs false
set_option maxRecDepth 100000 in
theorem nGlobal (i : Int) (w : World) : Calls Tryz.prog 30 #[.pointer none, .int .i64 i] w fun e w' => e = .returned (.tuple #[.int .u64 0, .int .i64 12]) ∧ w = w' := by
  have H := Lib.hid (fun F W => has_nil i F W)
  go_enter Tryz.func30, Tryz.ntmps30
  go_wp2_with (go_at_call 52; refine (H.out _ _).mono ?_; rintro e w2 ⟨rfl, rfl⟩)
  go_ret2
  exact ⟨rfl, rfl⟩
set_option maxRecDepth 100000 in
theorem nEntry (i : Int) (w : World) : Calls Tryz.prog 20 #[.pointer none, .int .i64 i] w fun e w' => e = .returned (.tuple #[.int .i64 0, .bool false, .int .i64 12]) ∧ w = w' := by
  have H := Lib.hid (fun F W => has_nil i F W)
  go_enter Tryz.func20, Tryz.ntmps20
  go_wp2_with (go_at_call 52; refine (H.out _ _).mono ?_; rintro e w2 ⟨rfl, rfl⟩)
  go_ret3
  exact ⟨rfl, rfl⟩
set_option maxRecDepth 100000 in
theorem nMemory (i : Int) (w : World) : Calls Tryz.prog 21 #[.pointer none, .int .i64 i] w fun e w' => e = .returned (.tuple #[.pointer none, .bool false]) ∧ w = w' := by
  have H := Lib.hid (fun F W => has_nil i F W)
  go_enter Tryz.func21, Tryz.ntmps21
  go_wp2_with (go_at_call 52; refine (H.out _ _).mono ?_; rintro e w2 ⟨rfl, rfl⟩)
  go_ret2
  exact ⟨rfl, rfl⟩
set_option maxRecDepth 100000 in
theorem nSet (i v : Int) (w : World) : Calls Tryz.prog 19 #[.pointer none, .int .i64 i, .int .u64 v] w fun e w' => e = .returned (.int .i64 12) ∧ w = w' := by
  have H := Lib.hid (fun F W => has_nil i F W)
  go_enter Tryz.func19, Tryz.ntmps19
  go_wp2_with (go_at_call 52; refine (H.out _ _).mono ?_; rintro e w2 ⟨rfl, rfl⟩)
  go_ret
  exact ⟨rfl, rfl⟩
set_option maxRecDepth 100000 in
theorem nPages (w : World) : Calls Tryz.prog 32 #[.pointer none] w fun e w' => e = .returned (.slice none 0 0) ∧ w = w' := by
  go_enter Tryz.func32, Tryz.ntmps32
  go_wp2
  go_ret
  exact ⟨rfl, rfl⟩
set_option maxRecDepth 100000 in
theorem nModule (w : World) : Calls Tryz.prog 18 #[.pointer none] w fun e w' => e = .returned (.pointer none) ∧ w = w' := by
  go_enter Tryz.func18, Tryz.ntmps18
  go_wp2
  go_ret
  exact ⟨rfl, rfl⟩
set_option maxRecDepth 100000 in
theorem nClose (w : World) : Calls Tryz.prog 22 #[.pointer none] w fun e w' => e = .returned (.int .i64 12) ∧ w = w' := by
  go_enter Tryz.func22, Tryz.ntmps22
  go_wp2_with (go_at_call 58; refine (closed_nil _).mono ?_; rintro e w2 ⟨rfl, rfl⟩)
  go_ret
  exact ⟨rfl, rfl⟩
set_option maxRecDepth 100000 in
theorem New_state (m : Option Addr) (w : World) : Calls Tryz.prog 11 #[.pointer m, .pointer none, .pointer none, .int .i64 0] w fun e w' => e = .returned (.tuple #[.pointer none, .int .i64 0, .int .i64 12]) ∧ w = w' := by
  go_enter Tryz.func11, Tryz.ntmps11
  go_wp2
  go_ret3
  exact ⟨rfl, rfl⟩
set_option maxRecDepth 100000 in
theorem New_type (a p : Nat) (w : World) : Calls Tryz.prog 11 #[.pointer none, .pointer (some ⟨a, 0, none⟩), .pointer (some ⟨p, 0, none⟩), .int .i64 0] w fun e w' => e = .returned (.tuple #[.pointer none, .int .i64 0, .int .i64 5]) ∧ Below w.heap.size w w' := by
  have HI := Lib.hid (Is_nil w)
  have hq : ∀ W, (binOp .eql 35 (.pointer (some ⟨a, 0, none⟩)) (.pointer none)).run Tryz.prog W = .ok (.bool false) W := fun W => by kernel_rfl
  have hq2 : ∀ W, (binOp .eql 45 (.pointer (some ⟨p, 0, none⟩)) (.pointer none)).run Tryz.prog W = .ok (.bool false) W := fun W => by kernel_rfl
  go_enter Tryz.func11, Tryz.ntmps11
  go_wp2_with (go_at_call 36; refine HI.out.mono ?_; rintro e w1 ⟨rfl, hb1⟩; have HB1 := Lib.hid hb1; clear hb1)
  go_ret3
  exact ⟨rfl, HB1.out⟩
set_option maxHeartbeats 2000000 in
set_option maxRecDepth 100000 in
theorem awake21_any (w : World) : Calls Tryz.prog 9 #[] w fun e w' => e = .returned (.bool true) ∧ Below w.heap.size w w' := by
  go_enter Tryz.func9, Tryz.ntmps9
  go_upto_region 2 with fail
  have hb : Blk (w.alloc (.cells G2 60)) w.heap.size 60 G2 := Blk.new w 60 G2
  have hb1 : Blk ((w.alloc (.cells G2 60)).alloc (.cells (ZG (.slice (some ⟨w.heap.size, 0, none⟩) 2 2)) 92)) w.heap.size 60 G2 := hb.alloc _
  have hm1 : Blk ((w.alloc (.cells G2 60)).alloc (.cells (ZG (.slice (some ⟨w.heap.size, 0, none⟩) 2 2)) 92)) (w.heap.size + 1) 92 (ZG (.slice (some ⟨w.heap.size, 0, none⟩) 2 2)) := by
    have h := Blk.new (w.alloc (.cells G2 60)) 92 (ZG (.slice (some ⟨w.heap.size, 0, none⟩) 2 2))
    rw [World.size_alloc] at h
    exact h
  have hB1 : Below w.heap.size w ((w.alloc (.cells G2 60)).alloc (.cells (ZG (.slice (some ⟨w.heap.size, 0, none⟩) 2 2)) 92)) := ((Below.refl _ w).alloc (Nat.le_refl _) _).alloc (by simp) _
  unfold G2 ZG at hb1 hm1 hB1
  clear hb
  obtain ⟨w1, hw1⟩ : ∃ w1, w1 = ((w.alloc
          (Obj.cells
            #[Value.int IntKind.u8 127, Value.bool false, Value.int IntKind.u64 5, Value.int IntKind.u8 126,
              Value.bool false, Value.int IntKind.u64 6]
            60)).alloc
      (Obj.cells
        #[Value.slice none 0 0, Value.slice none 0 0, Value.slice none 0 0, Value.int IntKind.i64 (-1),
          Value.slice none 0 0, Value.slice (some { block := w.heap.size, off := 0 }) 2 2, Value.slice none 0 0,
          Value.int IntKind.i64 (-1), Value.slice none 0 0, Value.slice none 0 0]
        92)) := ⟨_, rfl⟩
  rw [← hw1] at hb1 hm1 hB1 ⊢
  have H1 := Lib.hid (And.intro hb1 (And.intro hm1 hB1))
  clear hb1 hm1 hB1 hw1
  go_wp2_with (first
    | (go_at_call 10; refine (ANew_ok 1000 _ (by omega)).mono ?_
       rintro e w2 ⟨a, bb, rm, gm, rfl, h2, b2, ha2, hbb, hr, hg⟩
       have HA := Lib.hid (And.intro h2 (And.intro b2 (And.intro ha2 (And.intro hbb (And.intro hr hg)))))
       clear h2 b2 ha2 hbb hr hg)
    | (go_at_call 13; with_reducible refine (Pager_n 2 3 (by decide) w2).mono ?_
       rintro e w3 ⟨p, rfl, hp, hb3⟩
       have HN : Hid (Calls Tryz.prog 11 #[.pointer (some ⟨w.heap.size + 1, 0, none⟩), .pointer (some ⟨a, 0, none⟩), .pointer (some ⟨p, 0, none⟩), .int .i64 0] w3 _) := Lib.hid (New_two (b := w.heap.size) (((H1.out.2.1.below HA.out.2.1 H1.out.2.1.lt)).below hb3 (Nat.lt_of_lt_of_le H1.out.2.1.lt HA.out.2.1.size)) (((H1.out.1.below HA.out.2.1 H1.out.1.lt)).below hb3 (Nat.lt_of_lt_of_le H1.out.1.lt HA.out.2.1.size)) (HA.out.1.below hb3 (Nat.le_refl _)) rfl)
       have HB3 : Hid (Below w1.heap.size w1 w3) := Lib.hid (HA.out.2.1.trans (hb3.mono HA.out.2.1.size))
       clear hp hb3)
    | (go_at_call 11; with_reducible refine HN.out.mono ?_
       rintro e w4 ⟨s, rfl, ⟨d', hS, h6⟩, hF⟩
       have HG := Lib.hid (Global_one hS h6)
       have HF := Lib.hid hF
       clear hS h6 hF)
    | (go_at_call 30; with_reducible refine HG.out.mono ?_
       rintro e w5 ⟨rfl, k, rfl⟩))
  go_ret
  obtain ⟨_, _, ha, hbb, hr, hg⟩ := HA.out
  have h1 := H1.out.2.2.size
  refine ⟨rfl, below_drewN (HF.out.below (H1.out.2.2.trans (HB3.out.mono h1)) (Nat.le_trans h1 HB3.out.size) (fun k hk => by rcases hk with q | q | q | q <;> omega)) _⟩
set_option maxHeartbeats 4000000 in
set_option maxRecDepth 100000 in
theorem stateNone_walk (a0 a1 : Int) (w : World) (h0 : (Lit.int .i64 a0).wf = true) (h1 : (Lit.int .u64 a1).wf = true) :
    Calls Tryz.prog 6 #[.int .i64 a0, .int .u64 a1] w fun e w' => e = .returned (.bool true) ∧ Below w.heap.size w w' := by
  have HA := Lib.hid (awake21_any w)
  go_enter Tryz.func6, Tryz.ntmps6
  go_wp2_with (first
    | (go_at_call 9; with_reducible refine HA.out.mono ?_; rintro e w1 ⟨rfl, hb1⟩; have HB1 := Lib.hid hb1; clear hb1)
    | (go_at_call 30; with_reducible refine (nGlobal a0 _).mono ?_; rintro e w2 ⟨rfl, rfl⟩)
    | (go_at_call 20; with_reducible refine (nEntry a0 _).mono ?_; rintro e w2 ⟨rfl, rfl⟩)
    | (go_at_call 21; with_reducible refine (nMemory a0 _).mono ?_; rintro e w2 ⟨rfl, rfl⟩)
    | (go_at_call 10; refine (ANew_ok 100 _ (by omega)).mono ?_
       rintro e w2 ⟨a, bb, rm, gm, rfl, h2, b2, ha2, hbb, hr, hg⟩
       have HB2 : Hid (Below w.heap.size w w2) := Lib.hid (HB1.out.trans (b2.mono HB1.out.size))
       clear h2 b2 ha2 hbb hr hg)
    | (go_at_call 31; with_reducible refine (Empty_any _).mono ?_; rintro e w3 ⟨rfl, hw3⟩
       have HB3 : Hid (Below w.heap.size w w3) := Lib.hid (by rw [← hw3]; exact HB2.out.alloc HB2.out.size _)
       clear hw3)
    | (go_at_call 11; with_reducible refine (New_state _ _).mono ?_; rintro e w4 ⟨rfl, rfl⟩)
    | (go_at_call 13; with_reducible refine (Pager_n 1 2 (by decide) _).mono ?_
       rintro e w5 ⟨p, rfl, hp, hb5⟩
       have HB5 : Hid (Below w.heap.size w w5) := Lib.hid (HB3.out.trans (hb5.mono HB3.out.size))
       clear hp hb5)
    | (go_at_call 11; with_reducible refine (New_type _ _ _).mono ?_; rintro e w6 ⟨rfl, hb6⟩
       have HB6 : Hid (Below w.heap.size w w6) := Lib.hid (HB5.out.trans (hb6.mono HB5.out.size))
       clear hb6)
    | (go_at_call 19; with_reducible refine (nSet a0 a1 _).mono ?_; rintro e w7 ⟨rfl, rfl⟩)
    | (go_at_call 32; with_reducible refine (nPages _).mono ?_; rintro e w7 ⟨rfl, rfl⟩)
    | (go_at_call 18; with_reducible refine (nModule _).mono ?_; rintro e w7 ⟨rfl, rfl⟩)
    | (go_at_call 22; with_reducible refine (nClose _).mono ?_; rintro e w7 ⟨rfl, rfl⟩))
  go_ret
  exact ⟨rfl, HB6.out⟩
end Go.Proofs.YtahbnhhdpcieiaaGreatDoor
