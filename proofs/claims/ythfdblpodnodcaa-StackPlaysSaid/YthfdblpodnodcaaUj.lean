/-
  The walk of FrameKeeps.
-/
import Derived.Test.YthfdblpodnodcaaUi
namespace Go.Proofs.Ythfdblpodnodcaa
open Go.RowKit
set_option linter.unusedVariables false
theorem cl1440 : cl (12 * ((120 : Nat) : Int)) = 2048 := by decide
/-- what lies there: n frames of calls that wait, and above them those of calls that began -/
def FK (n : Nat) (f g : Nat → Nat) (j : Nat) : Nat × Nat × Nat := if j < n then (f j, j, 3 * j) else (1, g (j - n) + 1, j - n)
section
variable {w : World} {a bb rm gm : Nat} {d : Ad} {s at_ most h : Nat}
theorem FGo_w (H : FkI w a bb rm gm d s at_ most (h + 1)) (p : Nat) (P : Int) (e : P = p) (hp : p < 4294967296) (x y z : Nat) (hx : fr3 d (at_ + 12 * h) = (x, y, z)) : Calls Try.prog 32 #[.pointer (some ⟨s, 0, none⟩), .int .i64 P] w (GoPost a bb rm gm d s at_ most h (x, p, z) w) := by
  subst e
  have := FGo_ok H p hp
  rw [hx] at this
  exact this
end
set_option maxHeartbeats 2000000 in
set_option maxRecDepth 100000 in
theorem frameKeeps_walk (A : Option Addr) (n cap : Nat) (f : Nat → Nat) (A' : Option Addr) (m cap' : Nat) (g : Nat → Nat) (w : World) (hA : Sht w A n cap f) (hA' : Sht w A' m cap' g) : Calls Try.prog 11 #[.slice A n cap, .slice A' m cap'] w fun e w' => e = .returned (.bool true) ∧ Below w.heap.size w w' := by
  have HA := Lib.hid (awake20_any w)
  have hcap : n ≤ cap := hA.1
  have hcap2 : cap ≤ 9223372036854775807 := hA.2.1
  have hcap' : m ≤ cap' := hA'.1
  have hcap2' : cap' ≤ 9223372036854775807 := hA'.2.1
  have HW := Lib.hid hA
  have HW' := Lib.hid hA'
  clear hA hA'
  by_cases hn : n ≤ 60
  · by_cases hm : m ≤ 60
    · go_enter Try.func11, Try.ntmps11
      go_wp2_with (go_at_call 26; refine HA.out.mono ?_; rintro e w1 ⟨rfl, hb⟩; have HB := Lib.hid hb; clear hb)
      go_wp2_with fail
      refine (ANew_ok 2048 _ (by omega)).mono ?_
      rintro e w2 ⟨a, bb, rm, gm, rfl, h1, b1, ha, hb, hr, hg⟩
      have HN := FkNew_ok h1 120 (by omega) (by omega) rfl (by rw [cl1440]; show (2048 : Nat) ≤ 2048; decide) (by show (0 : Nat) < 1000000; decide)
      unfold NfPost at HN
      have HN : Hid (Calls Try.prog 27 #[.pointer (some ⟨a, 0, none⟩), .int .i64 120] w2 _) := Lib.hid HN
      have hs1 := HB.out.size
      have B1 := Lib.hid (And.intro (HB.out.trans (b1.mono hs1)) (And.intro (Nat.le_trans hs1 ha) (And.intro (Nat.le_trans hs1 hb) (And.intro (Nat.le_trans hs1 hr) (Nat.le_trans hs1 hg)))))
      clear h1 b1 ha hb hr hg hs1
      go_wp2_with (go_at_call 27; refine HN.out.mono ?_; rintro e w3 ⟨s, rfl, hs, hS, hF⟩; have HS3 := Lib.hid hS; have HL3 := Lib.hid (lo_new B1.out.1 B1.out.2.1 B1.out.2.2.1 B1.out.2.2.2.1 B1.out.2.2.2.2 hF hs); clear hs hS hF)
      go_loopw [9] (fun v9 wr => ∃ (k : Nat) (d : Ad), k ≤ n ∧ v9 = .int .i64 k ∧ Hid (FkI wr a bb rm gm d s (nuA 2048).height 120 k) ∧ Hid (FCon d (nuA 2048).height k (FK n f g)) ∧ Hid (Lo w wr bb s)) (fun v9 _ => n - (intOf v9).toNat)
      case atStart => exact ⟨0, _, Nat.zero_le _, rfl, HS3, Lib.hid (fun j hj => by omega), HL3⟩
      case round =>
        obtain ⟨k, d, hk, rfl, HQ, HC, HL⟩ := hrel
        by_cases hlt : k < n
        · obtain ⟨b, off, rfl, hb, hcell⟩ := HW.out.2.2.2 (by omega)
          have hc := HW.out.at_ HL.out.bel hlt
          have hfk := HW.out.2.2.1 k hlt
          have hr : Rt (f k, k, 3 * k) := ⟨by show f k < _; omega, by show k < _; omega, by show 3 * k < _; omega⟩
          have HP := FPush_w HQ.out (f k) k (3 * k) (f k : Int) (k : Int) (3 * (k : Int)) rfl rfl (by omega) hr (by omega)
          unfold FsPost at HP
          have HP := Lib.hid HP
          have HE : Hid (∀ d', d' = d.fpk ((nuA 2048).height + 12 * k) (f k, k, 3 * k) 3 → FCon d' (nuA 2048).height (k + 1) (FK n f g)) := Lib.hid (fun d' e => by
            subst e
            exact HC.out.push (by have := HQ.out.len; omega) hr (by unfold FK; rw [if_pos hlt]))
          obtain ⟨y, ey⟩ : ∃ y, y = f k := ⟨_, rfl⟩
          rw [← ey] at hc HP HE hfk
          clear hb hcell ey hr
          go_wp2_with (go_at_call 28; refine HP.out.mono ?_; rintro e w4 ⟨rfl, hS, hF⟩; have HS4 := Lib.hid hS; have HL4 := Lib.hid (HL.out.step hF); clear hS hF)
          exact ⟨⟨k + 1, _, by omega, by go_num, HS4, Lib.hid (HE.out _ rfl), HL4⟩, by simp [intOf]; omega⟩
        · obtain rfl : n = k := by omega
          go_wp2
          go_loopw [10] (fun v10 wr => ∃ (k : Nat) (d : Ad), k ≤ m ∧ v10 = .int .i64 k ∧ Hid (FkI wr a bb rm gm d s (nuA 2048).height 120 (n + k)) ∧ Hid (FCon d (nuA 2048).height (n + k) (FK n f g)) ∧ Hid (Lo w wr bb s)) (fun v10 _ => m - (intOf v10).toNat)
          case atStart => exact ⟨0, d, Nat.zero_le _, rfl, HQ, HC, HL⟩
          case round =>
            obtain ⟨k, d2, hk, rfl, HQ2, HC2, HL2⟩ := hrel
            by_cases hlt2 : k < m
            · obtain ⟨b, off, rfl, hb, hcell⟩ := HW'.out.2.2.2 (by omega)
              have hc := HW'.out.at_ HL2.out.bel hlt2
              have hgk := HW'.out.2.2.1 k hlt2
              have hr : Rt (1, g k, k) := ⟨by show 1 < _; omega, by show g k < _; omega, by show k < _; omega⟩
              have hr2 : Rt (1, g k + 1, k) := ⟨by show 1 < _; omega, by show g k + 1 < _; omega, by show k < _; omega⟩
              have HP := FPush_w HQ2.out 1 (g k) k 1 (g k : Int) (k : Int) rfl rfl rfl hr (by omega)
              unfold FsPost at HP
              have HP := Lib.hid HP
              have hlen := HQ2.out.len
              have HLn := Lib.hid hlen
              have E1 : Hid (fr3 (d2.fpk ((nuA 2048).height + 12 * (n + k)) (1, g k, k) 3) ((nuA 2048).height + 12 * (n + k)) = (1, g k, k)) := Lib.hid (fr3_put (by omega) hr)
              have HE : Hid (∀ d' d'', d' = d2.fpk ((nuA 2048).height + 12 * (n + k)) (1, g k, k) 3 → d'' = d'.fpk ((nuA 2048).height + 12 * (n + k)) (1, g k + 1, k) 3 → d'.mem.length = d2.mem.length → FCon d'' (nuA 2048).height (n + (k + 1)) (FK n f g)) := Lib.hid (fun d' d'' e e2 el => by
                subst e2
                refine FCon.push (F := FK n f g) (h := n + k) ?_ (by omega) hr2 ?_
                · subst e
                  intro j hj
                  rw [fr3_far _ (by omega) (by omega)]
                  exact HC2.out j hj
                · unfold FK
                  rw [if_neg (by omega), show n + k - n = k by omega])
              obtain ⟨y, ey⟩ : ∃ y, y = g k := ⟨_, rfl⟩
              have HY := Lib.hid ey
              rw [← ey] at hc HP HE hgk E1
              clear hb hcell ey hr hr2 hlen
              go_wp2_with (first
                | (go_at_call 28
                   with_reducible refine HP.out.mono ?_
                   rintro e w4 ⟨rfl, hS, hF⟩
                   have HL4 := Lib.hid (HL2.out.step hF)
                   have hc4 := HW'.out.at_ HL4.out.bel hlt2
                   rw [← HY.out] at hc4
                   have hlen4 : (d2.fpk ((nuA 2048).height + 12 * (n + k)) (1, y, k) 3).mem.length = d2.mem.length := hS.are.len.trans HQ2.out.are.len.symm
                   have HE4 := Lib.hid hlen4
                   have HG := FGo_w hS (y + 1) ((y : Int) + 1) rfl (by omega) 1 y k E1.out
                   unfold GoPost at HG
                   have HG := Lib.hid HG
                   clear hS hF hlen4)
                | (go_at_call 32
                   with_reducible refine HG.out.mono ?_
                   rintro e w5 ⟨rfl, hS, hF⟩
                   have HS5 := Lib.hid hS
                   have HL5 := Lib.hid (HL4.out.stepB hF)
                   have HC5 := Lib.hid (HE.out _ _ rfl rfl HE4.out)
                   clear hS hF))
              exact ⟨⟨k + 1, _, by omega, by go_num, HS5, HC5, HL5⟩, by simp [intOf]; omega⟩
            · obtain rfl : m = k := by omega
              go_wp2
              go_loopw [11, 12, 13] (fun v11 v12 v13 wr => ∃ (k : Nat), k ≤ m ∧ v11 = .int .i64 ((k : Int) - 1) ∧ Hid (FkI wr a bb rm gm d2 s (nuA 2048).height 120 (n + k)) ∧ Hid (Lo w wr bb s)) (fun v11 _ _ _ => (intOf v11 + 1).toNat)
              case atStart => exact ⟨m, Nat.le_refl _, rfl, HQ2, HL2⟩
              case round =>
                obtain ⟨k, hk, rfl, HQ3, HL3⟩ := hrel
                rcases (by cases k with | zero => exact .inl rfl | succ j => exact .inr ⟨j, rfl⟩ : k = 0 ∨ ∃ j, k = j + 1) with rfl | ⟨j, rfl⟩
                · rw [show ((0 : Nat) : Int) - 1 = -1 from rfl]
                  go_wp2
                  go_loopw [14, 15, 16] (fun v14 v15 v16 wr => ∃ (k : Nat), k ≤ n ∧ v14 = .int .i64 k ∧ Hid (FkI wr a bb rm gm d2 s (nuA 2048).height 120 n) ∧ Hid (Lo w wr bb s)) (fun v14 _ _ _ => n - (intOf v14).toNat)
                  case atStart => exact ⟨0, Nat.zero_le _, rfl, HQ3, HL3⟩
                  case round =>
                    obtain ⟨k, hk, rfl, HQ4, HL4⟩ := hrel
                    by_cases hlt4 : k < n
                    · obtain ⟨b, off, rfl, hb, hcell⟩ := HW.out.2.2.2 (by omega)
                      have hfk := HW.out.2.2.1 k hlt4
                      have HO := At_w HQ4.out k hlt4 (f k) k (3 * k) (f k : Int) (k : Int) (3 * (k : Int)) rfl rfl (by omega) (by
                        have := HC2.out k (by omega)
                        unfold FK at this
                        rw [if_pos hlt4] at this
                        exact this)
                      have HO := Lib.hid HO
                      have hcc : ∀ wr', Lo w wr' bb s → wr'.cell? ⟨b, off + k, none⟩ = some (.int .u16 ((f k : Nat) : Int)) := fun wr' h => HW.out.at_ h.bel hlt4
                      have HCC := Lib.hid hcc
                      obtain ⟨y, ey⟩ : ∃ y, y = f k := ⟨_, rfl⟩
                      rw [← ey] at HO HCC hfk
                      clear hb hcell hcc ey
                      go_wp2_with (go_at_call 33
                                   with_reducible refine HO.out.mono ?_
                                   rintro e w5 ⟨rfl, hB⟩
                                   have HS5 := Lib.hid ((HQ4.out.below hB).below (below_alloc w5 (.cells #[.int .i64 y, .int .i64 k, .int .i64 (3 * (k : Int))] 58)))
                                   have HL5 := Lib.hid ((HL4.out.mv hB).mv (below_alloc w5 (.cells #[.int .i64 y, .int .i64 k, .int .i64 (3 * (k : Int))] 58)))
                                   have hc5 : (w5.alloc (.cells #[.int .i64 y, .int .i64 k, .int .i64 (3 * (k : Int))] 58)).cell? ⟨b, off + k, none⟩ = some (.int .u16 (y : Int)) := HCC.out _ HL5.out
                                   clear hB)
                      go_quiet (fail)
                      go_wp2
                      exact ⟨⟨k + 1, by omega, by go_num, Lib.hid (HS5.out.drewN _), Lib.hid (HL5.out.drewN _)⟩, by simp [intOf]; omega⟩
                    · obtain rfl : n = k := by omega
                      have HO := Lib.hid (Depth_ok HQ4.out.blk)
                      go_wp2_with (go_at_call 35; refine HO.out.mono ?_; rintro e w' ⟨rfl, rfl⟩)
                      go_ret
                      exact ⟨rfl, HL4.out.bel⟩
                · have e1 : ((j + 1 : Nat) : Int) - 1 = (j : Int) := by omega
                  rw [e1]
                  clear e1
                  obtain ⟨b, off, rfl, hb, hcell⟩ := HW'.out.2.2.2 (by omega)
                  have hgj := HW'.out.2.2.1 j (by omega)
                  have HO := FPop_w (h := n + j) HQ3.out 1 (g j + 1) j 1 ((g j : Int) + 1) (j : Int) rfl rfl rfl (by
                    have := HC2.out (n + j) (by omega)
                    unfold FK at this
                    rw [if_neg (by omega), show n + j - n = j by omega] at this
                    exact this)
                  unfold PwPost at HO
                  have HO := Lib.hid HO
                  have hcc : ∀ wr', Lo w wr' bb s → wr'.cell? ⟨b, off + j, none⟩ = some (.int .u16 ((g j : Nat) : Int)) := fun wr' h => HW'.out.at_ h.bel (by omega)
                  have HCC := Lib.hid hcc
                  obtain ⟨y, ey⟩ : ∃ y, y = g j := ⟨_, rfl⟩
                  rw [← ey] at HO HCC hgj
                  clear hb hcell hcc ey
                  go_wp2_with (go_at_call 30
                               with_reducible refine HO.out.mono ?_
                               rintro e w5 ⟨rfl, hS, hF⟩
                               have HS5 := Lib.hid (hS.below (below_alloc w5 (.cells #[.int .i64 1, .int .i64 ((y : Int) + 1), .int .i64 j] 58)))
                               have HL5 := Lib.hid ((HL3.out.stepS hF).mv (below_alloc w5 (.cells #[.int .i64 1, .int .i64 ((y : Int) + 1), .int .i64 j] 58)))
                               have hc5 : (w5.alloc (.cells #[.int .i64 1, .int .i64 ((y : Int) + 1), .int .i64 j] 58)).cell? ⟨b, off + j, none⟩ = some (.int .u16 (y : Int)) := HCC.out _ HL5.out
                               clear hS hF)
                  go_quiet (fail)
                  go_wp2
                  exact ⟨⟨j, by omega, by go_num, Lib.hid (HS5.out.drewN _), Lib.hid (HL5.out.drewN _)⟩, by simp [intOf]⟩
    · go_enter Try.func11, Try.ntmps11
      go_wp2_with (go_at_call 26; refine HA.out.mono ?_; rintro e w1 ⟨rfl, hb⟩; have HB := Lib.hid hb; clear hb)
      go_ret
      exact ⟨rfl, HB.out⟩
  · go_enter Try.func11, Try.ntmps11
    go_wp2_with (go_at_call 26; refine HA.out.mono ?_; rintro e w1 ⟨rfl, hb⟩; have HB := Lib.hid hb; clear hb)
    go_ret
    exact ⟨rfl, HB.out⟩
end Go.Proofs.Ythfdblpodnodcaa
