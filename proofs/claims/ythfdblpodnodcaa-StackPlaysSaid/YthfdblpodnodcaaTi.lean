/-
  The walk of StackTwo.
-/
import Derived.Test.YthfdblpodnodcaaTh
namespace Go.Proofs.Ythfdblpodnodcaa
open Go.RowKit
set_option linter.unusedVariables false
theorem Take_zero {w : World} {a bb rm gm s at_ cells : Nat} {d : Ad} (n : Nat) (H : SkI w a bb rm gm d s at_ cells n) : Calls Try.prog 19 #[.pointer (some ⟨s, 0, none⟩), .int .i64 n] w (TkPost a bb rm gm d s at_ cells 0 n w) :=
  Take_ok n (by rw [Nat.zero_add]; exact H)
/-- what was taken are the words -/
theorem con_row {w : World} {d : Ad} {at_ n g : Nat} {F : Nat → Nat} (hC : Con d at_ n F) (h : Blk w g 38 (wRow n n fun i => wdN d.mem (at_ + 8 * (0 + i)) 8).toArray) : Blk w g 38 (wRow n n F).toArray := by
  have e : wRow n n (fun i => wdN d.mem (at_ + 8 * (0 + i)) 8) = wRow n n F := by
    unfold wRow
    apply List.map_congr_left
    intro i hi
    have := List.mem_range.1 hi
    rw [if_pos this, if_pos this]
    show U64 (wdN d.mem (at_ + 8 * (0 + i)) 8) = U64 (F i)
    rw [Nat.zero_add, hC i this]
  rw [e] at h
  exact h
theorem hP_keep {w w1 w2 w3 : World} {a bb rm gm s t n h2 g : Nat} {d : Ad} {F G : Nat → Nat} {cs : Array Value} (H : Duo w w1 a bb rm gm s t d n h2 F G) (h : Blk w2 g 38 (wRow n n fun i => wdN d.mem (0 + 8 * (0 + i)) 8).toArray) (ht : Blk w2 t 79 cs) (hf : Fr (· = t) w2 w3) : Blk w3 g 38 (wRow n n F).toArray :=
  con_row H.c1 (h.fr hf (h.ne_ ht (by decide)))
set_option maxHeartbeats 2000000 in
set_option maxRecDepth 100000 in
theorem stackTwo_walk (A : Option Addr) (n cap : Nat) (f : Nat → Nat) (A' : Option Addr) (m cap' : Nat) (g : Nat → Nat) (w : World) (hA : Wrd w A n cap f) (hA' : Wrd w A' m cap' g) : Calls Try.prog 5 #[.slice A n cap, .slice A' m cap'] w fun e w' => e = .returned (.bool true) ∧ Below w.heap.size w w' := by
  have HA := Lib.hid (awake19_any w)
  have hcap : n ≤ cap := hA.1
  have hcap2 : cap ≤ 9223372036854775807 := hA.2.1
  have hcap' : m ≤ cap' := hA'.1
  have hcap2' : cap' ≤ 9223372036854775807 := hA'.2.1
  have HW := Lib.hid hA
  have HW' := Lib.hid hA'
  clear hA hA'
  by_cases hn : n ≤ 60
  · by_cases hm : m ≤ 60
    · go_enter Try.func5, Try.ntmps5
      go_wp2_with (go_at_call 12; refine HA.out.mono ?_; rintro e w1 ⟨rfl, hb⟩; have HB := Lib.hid hb; clear hb)
      go_wp2_with fail
      refine (ANew_ok 2048 _ (by omega)).mono ?_
      rintro e w2 ⟨a, bb, rm, gm, rfl, h1, b1, ha, hb, hr, hg⟩
      have HN := Lib.hid (SkNew64 h1)
      have hs1 := HB.out.size
      have B1 := Lib.hid (And.intro (HB.out.trans (b1.mono hs1)) (And.intro (Nat.le_trans hs1 ha) (And.intro (Nat.le_trans hs1 hb) (And.intro (Nat.le_trans hs1 hr) (Nat.le_trans hs1 hg)))))
      clear h1 b1 ha hb hr hg hs1
      go_wp2_with (go_at_call 14; refine HN.out.mono ?_; rintro e w3 ⟨s, rfl, hs, hS, hF⟩; have HS3 := Lib.hid hS; have HF3 := Lib.hid hF; have Hs3 := Lib.hid hs; clear hs hS hF)
      go_wp2_with (go_at_call 14; refine (SkNew64' HS3.out.are).mono ?_; rintro e w4 ⟨t, rfl, ht, hT, hF⟩; have HD := Lib.hid (duo_new (F := f) (G := g) B1.out.1 B1.out.2.1 B1.out.2.2.1 B1.out.2.2.2.1 B1.out.2.2.2.2 Hs3.out HS3.out HF3.out ht hT hF); clear ht hT hF)
      go_loopw [11] (fun v11 wr => ∃ (k h1 h2 : Nat) (d : Ad), k ≤ 60 ∧ v11 = .int .i64 k ∧ Hid (h1 = min k n ∧ h2 = min k m) ∧ Hid (Duo w wr a bb rm gm s t d h1 h2 f g)) (fun v11 _ => 60 - (intOf v11).toNat)
      case atStart => exact ⟨0, 0, 0, _, Nat.zero_le _, rfl, Lib.hid ⟨by simp, by simp⟩, HD⟩
      case round =>
        obtain ⟨k, h1, h2, d, hk, rfl, HM, HQ⟩ := hrel
        by_cases hlt : k < n
        · obtain ⟨b, off, rfl, hb, hcell⟩ := HW.out.2.2.2 (by omega)
          obtain rfl : h1 = k := by have := HM.out.1; omega
          have hc := HW.out.at_ (B := 0) HQ.out.l1.bel hlt
          have hfk := HW.out.2.2.1 h1 hlt
          have HP := push1 HQ.out.s1 (f h1) hfk (by omega)
          unfold P1Post at HP
          have HP := Lib.hid HP
          have HFK := Lib.hid hfk
          obtain ⟨y, ey⟩ : ∃ y, y = f h1 := ⟨_, rfl⟩
          have HY := Lib.hid ey
          rw [← ey] at hc HP
          clear hb hcell hfk ey
          by_cases hlt2 : h1 < m
          · obtain ⟨b', off', rfl, hb, hcell⟩ := HW'.out.2.2.2 (by omega)
            obtain rfl : h2 = h1 := by have := HM.out.2; omega
            have hgk := HW'.out.2.2.1 h2 hlt2
            have HGK := Lib.hid hgk
            obtain ⟨z, ez⟩ : ∃ z, z = g h2 := ⟨_, rfl⟩
            have HZ := Lib.hid ez
            clear hb hcell hgk ez
            go_wp2_with (first
              | (go_at_call 17
                 with_reducible refine HP.out.mono ?_
                 rintro e w5 ⟨rfl, hS, hF⟩
                 have HQ5 := Lib.hid (HQ.out.push_s hS hF (by rw [HY.out]; exact HFK.out) HY.out)
                 have hc5 := HW'.out.at_ (B := 0) HQ5.out.l1.bel hlt2
                 rw [← HZ.out] at hc5
                 have HP2 := push1 HQ5.out.s2 z (by rw [HZ.out]; exact HGK.out) (by omega)
                 unfold P1Post at HP2
                 have HP2 := Lib.hid HP2
                 clear hS hF)
              | (go_at_call 17
                 with_reducible refine HP2.out.mono ?_
                 rintro e w6 ⟨rfl, hS, hF⟩
                 have HQ6 := Lib.hid (HQ5.out.push_t hS hF (by rw [HZ.out]; exact HGK.out) HZ.out)
                 clear hS hF))
            exact ⟨⟨h2 + 1, _, _, _, by omega, by go_num, Lib.hid ⟨by omega, by omega⟩, HQ6⟩, by simp [intOf]; omega⟩
          · go_wp2_with (go_at_call 17
                         with_reducible refine HP.out.mono ?_
                         rintro e w5 ⟨rfl, hS, hF⟩
                         have HQ5 := Lib.hid (HQ.out.push_s hS hF (by rw [HY.out]; exact HFK.out) HY.out)
                         clear hS hF)
            exact ⟨⟨h1 + 1, _, _, _, by omega, by go_num, Lib.hid ⟨by omega, by have := HM.out.2; omega⟩, HQ5⟩, by simp [intOf]; omega⟩
        · by_cases hlt2 : k < m
          · obtain ⟨b', off', rfl, hb, hcell⟩ := HW'.out.2.2.2 (by omega)
            obtain rfl : h2 = k := by have := HM.out.2; omega
            have hgk := HW'.out.2.2.1 h2 hlt2
            have hc5 := HW'.out.at_ (B := 0) HQ.out.l1.bel hlt2
            have HP2 := push1 HQ.out.s2 (g h2) hgk (by omega)
            unfold P1Post at HP2
            have HP2 := Lib.hid HP2
            have HGK := Lib.hid hgk
            obtain ⟨z, ez⟩ : ∃ z, z = g h2 := ⟨_, rfl⟩
            have HZ := Lib.hid ez
            rw [← ez] at hc5 HP2
            clear hb hcell hgk ez
            go_wp2_with (go_at_call 17
                         with_reducible refine HP2.out.mono ?_
                         rintro e w6 ⟨rfl, hS, hF⟩
                         have HQ6 := Lib.hid (HQ.out.push_t hS hF (by rw [HZ.out]; exact HGK.out) HZ.out)
                         clear hS hF)
            exact ⟨⟨h2 + 1, _, _, _, by omega, by go_num, Lib.hid ⟨by have := HM.out.1; omega, by omega⟩, HQ6⟩, by simp [intOf]; omega⟩
          · obtain rfl : h1 = n := by have := HM.out.1; omega
            obtain rfl : h2 = m := by have := HM.out.2; omega
            have HT := Take_zero h1 HQ.out.s1
            unfold TkPost at HT
            have HT := Lib.hid HT
            go_wp2_with (first
              | (go_at_call 19
                 with_reducible refine HT.out.mono ?_
                 rintro e w5 ⟨p, rfl, hp, hP, hS, hF⟩
                 have HQ5 := Lib.hid (HQ.out.cut_s hS hF (Nat.zero_le _))
                 have HP5 := Lib.hid hP
                 have Hp5 := Lib.hid hp
                 have HT2 := Take_zero h2 HQ5.out.s2
                 unfold TkPost at HT2
                 have HT2 := Lib.hid HT2
                 clear hp hP hS hF)
              | (go_at_call 19
                 with_reducible refine HT2.out.mono ?_
                 rintro e w6 ⟨q, rfl, hq, hR, hS, hF⟩
                 have HQ6 := Lib.hid (HQ5.out.cut_t hS hF (Nat.zero_le _))
                 have HX := Lib.hid (hP_keep HQ.out HP5.out HQ5.out.s2.blk hF)
                 have HR6 := Lib.hid (con_row HQ5.out.c2 hR)
                 clear hq hR hS hF))
            go_loopw [16] (fun v16 wr => ∃ k : Nat, k ≤ h1 ∧ v16 = .int .i64 k ∧ ∃ q, Hid (wr = w6.drewN q)) (fun v16 _ => h1 - (intOf v16).toNat)
            case atStart => exact ⟨0, Nat.zero_le _, rfl, 0, Lib.hid rfl⟩
            case round =>
              obtain ⟨j, hj, rfl, qq, hwr⟩ := hrel
              obtain rfl := hwr.out
              clear hwr
              by_cases hjl : j < h1
              · have hx : ∀ k, (w6.drewN k).cell? ⟨p, j, none⟩ = some (.int .u64 ((f j : Nat) : Int)) := fun k => by
                  rw [show (w6.drewN k).cell? ⟨p, j, none⟩ = w6.cell? ⟨p, j, none⟩ from rfl, HX.out.cell, List.getElem?_toArray, wRow_get hjl, if_pos hjl]; rfl
                obtain ⟨b, off, rfl, hb, hcell⟩ := HW.out.2.2.2 (by omega)
                have hc : ∀ k, (w6.drewN k).cell? ⟨b, off + j, none⟩ = some (.int .u64 ((f j : Nat) : Int)) := fun k => HW.out.at_ (B := 0) (HQ6.out.l1.drewN k).bel hjl
                obtain ⟨y, ey⟩ : ∃ y, y = f j := ⟨_, rfl⟩
                rw [← ey] at hx hc
                clear hb hcell ey
                go_wp2
                go_quiet (fail)
                go_wp2
                exact ⟨⟨j + 1, by omega, by go_num, _, Lib.hid rfl⟩, by simp [intOf]; omega⟩
              · obtain rfl : h1 = j := by omega
                go_wp2
                go_loopw [17] (fun v17 wr => ∃ k : Nat, k ≤ h2 ∧ v17 = .int .i64 k ∧ ∃ q, Hid (wr = w6.drewN q)) (fun v17 _ => h2 - (intOf v17).toNat)
                case atStart => exact ⟨0, Nat.zero_le _, rfl, _, Lib.hid rfl⟩
                case round =>
                  obtain ⟨j, hj, rfl, qq, hwr⟩ := hrel
                  obtain rfl := hwr.out
                  clear hwr
                  by_cases hjl : j < h2
                  · have hx : ∀ k, (w6.drewN k).cell? ⟨q, j, none⟩ = some (.int .u64 ((g j : Nat) : Int)) := fun k => by
                      rw [show (w6.drewN k).cell? ⟨q, j, none⟩ = w6.cell? ⟨q, j, none⟩ from rfl, HR6.out.cell, List.getElem?_toArray, wRow_get hjl, if_pos hjl]; rfl
                    obtain ⟨b, off, rfl, hb, hcell⟩ := HW'.out.2.2.2 (by omega)
                    have hc : ∀ k, (w6.drewN k).cell? ⟨b, off + j, none⟩ = some (.int .u64 ((g j : Nat) : Int)) := fun k => HW'.out.at_ (B := 0) (HQ6.out.l1.drewN k).bel hjl
                    obtain ⟨y, ey⟩ : ∃ y, y = g j := ⟨_, rfl⟩
                    rw [← ey] at hx hc
                    clear hb hcell ey
                    go_wp2
                    go_quiet (fail)
                    go_wp2
                    exact ⟨⟨j + 1, by omega, by go_num, _, Lib.hid rfl⟩, by simp [intOf]; omega⟩
                  · obtain rfl : h2 = j := by omega
                    go_wp2
                    go_ret
                    exact ⟨rfl, (HQ6.out.l1.drewN _).bel⟩
    · go_enter Try.func5, Try.ntmps5
      go_wp2_with (go_at_call 12; refine HA.out.mono ?_; rintro e w1 ⟨rfl, hb⟩; have HB := Lib.hid hb; clear hb)
      go_ret
      exact ⟨rfl, HB.out⟩
  · go_enter Try.func5, Try.ntmps5
    go_wp2_with (go_at_call 12; refine HA.out.mono ?_; rintro e w1 ⟨rfl, hb⟩; have HB := Lib.hid hb; clear hb)
    go_ret
    exact ⟨rfl, HB.out⟩
end Go.Proofs.Ythfdblpodnodcaa
