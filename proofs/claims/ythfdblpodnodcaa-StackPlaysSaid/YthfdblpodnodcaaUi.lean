/-
  The walk of FrameOrder.
-/
import Derived.Test.YthfdblpodnodcaaUh
import Derived.BigGuard
namespace Go.Proofs.Ythfdblpodnodcaa
open Go.RowKit
set_option linter.unusedVariables false
theorem cl1200 : cl (12 * ((100 : Nat) : Int)) = 2048 := by decide
section
variable {w : World} {a bb rm gm : Nat} {d : Ad} {s at_ most h : Nat}
/-- Push and Pop with numbers written out -/
theorem FPush_w (H : FkI w a bb rm gm d s at_ most h) (x y z : Nat) (X Y Z : Int) (e1 : X = x) (e2 : Y = y) (e3 : Z = z) (hx : Rt (x, y, z)) (hn : h < most) : Calls Try.prog 28 #[.pointer (some ⟨s, 0, none⟩), .agg #[.int .i64 X, .int .i64 Y, .int .i64 Z]] w (FsPost a bb rm gm d s at_ most h (x, y, z) w) := by
  subst e1 e2 e3
  exact FPush_ok H (x, y, z) hx hn
def PwPost (a bb rm gm : Nat) (d : Ad) (s at_ most h : Nat) (X Y Z : Int) (w : World) (e : Ending) (w' : World) : Prop :=
  e = .returned (.tuple #[.agg #[.int .i64 X, .int .i64 Y, .int .i64 Z], .int .i64 0]) ∧ FkI w' a bb rm gm d s at_ most h ∧ Fr (· = s) w w'
theorem FPop_w (H : FkI w a bb rm gm d s at_ most (h + 1)) (x y z : Nat) (X Y Z : Int) (e1 : X = x) (e2 : Y = y) (e3 : Z = z) (hx : fr3 d (at_ + 12 * h) = (x, y, z)) : Calls Try.prog 30 #[.pointer (some ⟨s, 0, none⟩)] w (PwPost a bb rm gm d s at_ most h X Y Z w) := by
  subst e1 e2 e3
  have := FPop_ok H
  rw [hx] at this
  exact this
theorem At_w (H : FkI w a bb rm gm d s at_ most h) (n : Nat) (hn : n < h) (x y z : Nat) (X Y Z : Int) (e1 : X = x) (e2 : Y = y) (e3 : Z = z) (hx : fr3 d (at_ + 12 * n) = (x, y, z)) : Calls Try.prog 33 #[.pointer (some ⟨s, 0, none⟩), .int .i64 n] w fun e w' => e = .returned (.tuple #[.agg #[.int .i64 X, .int .i64 Y, .int .i64 Z], .int .i64 0]) ∧ Below w.heap.size w w' := by
  subst e1 e2 e3
  have := At_ok H n hn
  rw [hx] at this
  exact this
end
theorem FCon.push {d : Ad} {at_ h : Nat} {F : Nat → Nat × Nat × Nat} {x : Nat × Nat × Nat} (H : FCon d at_ h F) (hl : at_ + 12 * (h + 1) ≤ d.mem.length) (hx : Rt x) (e : x = F h) : FCon (d.fpk (at_ + 12 * h) x 3) at_ (h + 1) F := by
  refine (H.put (n := h) (x := x) hl (by omega) hx (Nat.le_refl _) (h + 1) (.inr ⟨rfl, rfl⟩)).cong fun j hj => ?_
  show (if j = h then x else F j) = F j
  by_cases q : j = h
  · rw [if_pos q, e, q]
  · rw [if_neg q]
set_option maxHeartbeats 1000000 in
set_option maxRecDepth 100000 in
theorem frameOrder_walk (A : Option Addr) (n cap : Nat) (f : Nat → Nat) (w : World) (hA : Sht w A n cap f) : Calls Try.prog 9 #[.slice A n cap] w fun e w' => e = .returned (.bool true) ∧ Below w.heap.size w w' := by
  have HA := Lib.hid (awake20_any w)
  have hcap : n ≤ cap := hA.1
  have hcap2 : cap ≤ 9223372036854775807 := hA.2.1
  have HW := Lib.hid hA
  clear hA
  by_cases hn : n ≤ 100
  · go_enter Try.func9, Try.ntmps9
    go_wp2_with (go_at_call 26; refine HA.out.mono ?_; rintro e w1 ⟨rfl, hb⟩; have HB := Lib.hid hb; clear hb)
    go_wp2_with fail
    refine (ANew_ok 2048 _ (by omega)).mono ?_
    rintro e w2 ⟨a, bb, rm, gm, rfl, h1, b1, ha, hb, hr, hg⟩
    have HN := FkNew_ok h1 100 (by omega) (by omega) rfl (by rw [cl1200]; show (2048 : Nat) ≤ 2048; decide) (by show (0 : Nat) < 1000000; decide)
    unfold NfPost at HN
    have HN : Hid (Calls Try.prog 27 #[.pointer (some ⟨a, 0, none⟩), .int .i64 100] w2 _) := Lib.hid HN
    have hs1 := HB.out.size
    have B1 := Lib.hid (And.intro (HB.out.trans (b1.mono hs1)) (And.intro (Nat.le_trans hs1 ha) (And.intro (Nat.le_trans hs1 hb) (And.intro (Nat.le_trans hs1 hr) (Nat.le_trans hs1 hg)))))
    clear h1 b1 ha hb hr hg hs1
    go_wp2_with (go_at_call 27; refine HN.out.mono ?_; rintro e w3 ⟨s, rfl, hs, hS, hF⟩; have HS3 := Lib.hid hS; have HL3 := Lib.hid (lo_new B1.out.1 B1.out.2.1 B1.out.2.2.1 B1.out.2.2.2.1 B1.out.2.2.2.2 hF hs); clear hs hS hF)
    go_loopw [7] (fun v7 wr => ∃ (k : Nat) (d : Ad), k ≤ n ∧ v7 = .int .i64 k ∧ Hid (FkI wr a bb rm gm d s (nuA 2048).height 100 k) ∧ Hid (FCon d (nuA 2048).height k (fun j => (j, f j, 2 * j))) ∧ Hid (Lo w wr bb s)) (fun v7 _ => n - (intOf v7).toNat)
    case atStart => exact ⟨0, _, Nat.zero_le _, rfl, HS3, Lib.hid (fun j hj => by omega), HL3⟩
    case round =>
      obtain ⟨k, d, hk, rfl, HQ, HC, HL⟩ := hrel
      by_cases hlt : k < n
      · obtain ⟨b, off, rfl, hb, hcell⟩ := HW.out.2.2.2 (by omega)
        have hc := HW.out.at_ HL.out.bel hlt
        have hfk := HW.out.2.2.1 k hlt
        have hr : Rt (k, f k, 2 * k) := ⟨by show k < _; omega, by show f k < _; omega, by show 2 * k < _; omega⟩
        have HP := FPush_w HQ.out k (f k) (2 * k) (k : Int) (f k : Int) (2 * (k : Int)) rfl rfl (by omega) hr (by omega)
        unfold FsPost at HP
        have HP := Lib.hid HP
        have HE : Hid (∀ d', d' = d.fpk ((nuA 2048).height + 12 * k) (k, f k, 2 * k) 3 → FCon d' (nuA 2048).height (k + 1) (fun j => (j, f j, 2 * j))) := Lib.hid (fun d' e => by
          subst e
          exact HC.out.push (by have := HQ.out.len; omega) hr rfl)
        obtain ⟨y, ey⟩ : ∃ y, y = f k := ⟨_, rfl⟩
        rw [← ey] at hc HP HE hfk
        clear hb hcell ey hr
        go_wp2_with (go_at_call 28; refine HP.out.mono ?_; rintro e w4 ⟨rfl, hS, hF⟩; have HS4 := Lib.hid hS; have HL4 := Lib.hid (HL.out.step hF); clear hS hF)
        exact ⟨⟨k + 1, _, by omega, by go_num, HS4, Lib.hid (HE.out _ rfl), HL4⟩, by simp [intOf]; omega⟩
      · obtain rfl : n = k := by omega
        go_wp2
        go_loopw [8, 9, 10] (fun v8 v9 v10 wr => ∃ (k : Nat), k ≤ n ∧ v8 = .int .i64 ((k : Int) - 1) ∧ Hid (FkI wr a bb rm gm d s (nuA 2048).height 100 k) ∧ Hid (Lo w wr bb s)) (fun v8 _ _ _ => (intOf v8 + 1).toNat)
        case atStart => exact ⟨n, Nat.le_refl _, rfl, HQ, HL⟩
        case round =>
          obtain ⟨k, hk, rfl, HQ2, HL2⟩ := hrel
          rcases (by cases k with | zero => exact .inl rfl | succ j => exact .inr ⟨j, rfl⟩ : k = 0 ∨ ∃ j, k = j + 1) with rfl | ⟨j, rfl⟩
          · have HO := Lib.hid (Depth_ok HQ2.out.blk)
            go_wp2_with (go_at_call 35; refine HO.out.mono ?_; rintro e w' ⟨rfl, rfl⟩)
            go_ret
            exact ⟨rfl, HL2.out.bel⟩
          · have e1 : ((j + 1 : Nat) : Int) - 1 = (j : Int) := by omega
            rw [e1]
            clear e1
            obtain ⟨b, off, rfl, hb, hcell⟩ := HW.out.2.2.2 (by omega)
            have hfj := HW.out.2.2.1 j (by omega)
            have HO := FPop_w HQ2.out j (f j) (2 * j) (j : Int) (f j : Int) (2 * (j : Int)) rfl rfl (by omega) (HC.out j (by omega))
            unfold PwPost at HO
            have HO := Lib.hid HO
            have hcc : ∀ wr', Lo w wr' bb s → wr'.cell? ⟨b, off + j, none⟩ = some (.int .u16 ((f j : Nat) : Int)) := fun wr' h => HW.out.at_ h.bel (by omega)
            have HCC := Lib.hid hcc
            obtain ⟨y, ey⟩ : ∃ y, y = f j := ⟨_, rfl⟩
            rw [← ey] at HO HCC hfj
            clear hb hcell hcc ey
            go_wp2_with (go_at_call 30
                         refine HO.out.mono ?_
                         rintro e w5 ⟨rfl, hS, hF⟩
                         have HS5 := Lib.hid (hS.below (below_alloc w5 (.cells #[.int .i64 j, .int .i64 y, .int .i64 (2 * (j : Int))] 58)))
                         have HL5 := Lib.hid ((HL2.out.stepS hF).mv (below_alloc w5 (.cells #[.int .i64 j, .int .i64 y, .int .i64 (2 * (j : Int))] 58)))
                         have hc5 : (w5.alloc (.cells #[.int .i64 j, .int .i64 y, .int .i64 (2 * (j : Int))] 58)).cell? ⟨b, off + j, none⟩ = some (.int .u16 (y : Int)) := HCC.out _ HL5.out
                         clear hS hF)
            go_quiet (fail)
            go_wp2
            exact ⟨⟨j, by omega, by go_num, Lib.hid (HS5.out.drewN _), Lib.hid (HL5.out.drewN _)⟩, by simp [intOf]⟩
  · go_enter Try.func9, Try.ntmps9
    go_wp2_with (go_at_call 26; refine HA.out.mono ?_; rintro e w1 ⟨rfl, hb⟩; have HB := Lib.hid hb; clear hb)
    go_ret
    exact ⟨rfl, HB.out⟩
end Go.Proofs.Ythfdblpodnodcaa
