/-
  The walk of StackOrder.
-/
import Derived.Test.YthfdblpodnodcaaTf
namespace Go.Proofs.Ythfdblpodnodcaa
open Go.RowKit
set_option linter.unusedVariables false
def P1Post (a bb rm gm : Nat) (d : Ad) (s at_ cells h v : Nat) (w : World) (e : Ending) (w' : World) : Prop :=
  e = .returned (.int .i64 0) ∧ SkI w' a bb rm gm (d.pus (at_ + 8 * h) (fun _ => v) 1) s at_ cells (h + 1) ∧ Fr (fun k => k = bb ∨ k = s) w w'
/-- one word is pushed -/
theorem push1 {w : World} {a bb rm gm s at_ cells h : Nat} {d : Ad} (H : SkI w a bb rm gm d s at_ cells h) (v : Nat) (hv : v < 18446744073709551616) (hh : h + 1 ≤ cells) :
    Calls Try.prog 17 #[.pointer (some ⟨s, 0, none⟩), .slice (some ⟨w.heap.size, 0, none⟩) 1 1] (w.alloc (.cells #[.int .u64 v] 38)) (P1Post a bb rm gm d s at_ cells h v w) := by
  have hA := H.below (below_alloc w (.cells #[.int .u64 v] 38))
  have hB : Blk (w.alloc (.cells #[.int .u64 v] 38)) w.heap.size 38 #[U64 v] := Blk.new w 38 _
  refine (Push_ok hA (some ⟨w.heap.size, 0, none⟩) 1 1 (fun _ => v) (wrd1 hB hv) (fun _ b off e => by injection e with e; injection e with e; rw [← e]; exact hB.ne_ hA.are.byt (by decide)) hh).mono ?_
  rintro e w' ⟨rfl, h1, h2⟩
  exact ⟨rfl, h1, (Fr.of_below (below_alloc w _)).trans h2⟩
theorem Wrd.at_ {w wr : World} {B : Nat} {b off n cap j : Nat} {f : Nat → Nat} (h : Wrd w (some ⟨b, off, none⟩) n cap f) (hb : Below w.heap.size w wr) (hj : j < n) : wr.cell? ⟨b, off + j, none⟩ = some (.int .u64 ((f j : Nat) : Int)) := by
  obtain ⟨b', off', e, hlt, hc⟩ := h.2.2.2 (by omega)
  injection e with e
  injection e with e1 e2
  subst e1 e2
  exact (hb.cell (p := ⟨b, off + j, none⟩) hlt).trans (hc j hj)
theorem cl250 : cl (8 * ((250 : Nat) : Int)) = 2048 := by decide
set_option maxHeartbeats 1000000 in
set_option maxRecDepth 100000 in
theorem stackOrder_walk (A : Option Addr) (n cap : Nat) (f : Nat → Nat) (w : World) (hA : Wrd w A n cap f) : Calls Try.prog 4 #[.slice A n cap] w fun e w' => e = .returned (.bool true) ∧ Below w.heap.size w w' := by
  have HA := Lib.hid (awake19_any w)
  have hcap : n ≤ cap := hA.1
  have hcap2 : cap ≤ 9223372036854775807 := hA.2.1
  have HW := Lib.hid hA
  clear hA
  by_cases hn : n ≤ 200
  · go_enter Try.func4, Try.ntmps4
    go_wp2_with (go_at_call 12; refine HA.out.mono ?_; rintro e w1 ⟨rfl, hb⟩; have HB := Lib.hid hb; clear hb)
    go_wp2_with fail
    refine (ANew_ok 4096 _ (by omega)).mono ?_
    rintro e w2 ⟨a, bb, rm, gm, rfl, h1, b1, ha, hb, hr, hg⟩
    have HN := SkNew_ok h1 250 (by omega) (by omega) rfl (by rw [cl250]; show (2048 : Nat) ≤ 4096; decide) (by show (0 : Nat) < 1000000; decide)
    unfold NkPost at HN
    have HN : Hid (Calls Try.prog 14 #[.pointer (some ⟨a, 0, none⟩), .int .i64 250] w2 _) := Lib.hid HN
    have hs1 := HB.out.size
    have B1 := Lib.hid (And.intro (HB.out.trans (b1.mono hs1)) (And.intro (Nat.le_trans hs1 ha) (And.intro (Nat.le_trans hs1 hb) (And.intro (Nat.le_trans hs1 hr) (Nat.le_trans hs1 hg)))))
    clear h1 b1 ha hb hr hg hs1
    go_wp2_with (go_at_call 14; refine HN.out.mono ?_; rintro e w3 ⟨s, rfl, hs, hS, hF⟩; have HS3 := Lib.hid hS; have HL3 := Lib.hid (lo_new B1.out.1 B1.out.2.1 B1.out.2.2.1 B1.out.2.2.2.1 B1.out.2.2.2.2 hF hs); clear hs hS hF)
    go_loopw [7] (fun v7 wr => ∃ (k : Nat) (d : Ad), k ≤ n ∧ v7 = .int .i64 k ∧ Hid (SkI wr a bb rm gm d s (nuA 4096).height 250 k) ∧ Hid (Con d (nuA 4096).height k f) ∧ Hid (Lo w wr bb s)) (fun v7 _ => n - (intOf v7).toNat)
    case atStart => exact ⟨0, _, Nat.zero_le _, rfl, HS3, Lib.hid (fun j hj => by omega), HL3⟩
    case round =>
      obtain ⟨k, d, hk, rfl, HQ, HC, HL⟩ := hrel
      by_cases hlt : k < n
      · obtain ⟨b, off, rfl, hb, hcell⟩ := HW.out.2.2.2 (by omega)
        have hc := HW.out.at_ (B := 0) HL.out.bel hlt
        have hfk := HW.out.2.2.1 k hlt
        have HP := push1 HQ.out (f k) hfk (by omega)
        unfold P1Post at HP
        have HP := Lib.hid HP
        have HE : Hid (∀ d', d' = d.pus ((nuA 4096).height + 8 * k) (fun _ => f k) 1 → Con d' (nuA 4096).height (k + 1) f) := Lib.hid (fun d' e => by
          subst e
          exact HC.out.push (by have := HQ.out.len; omega) (fun j hj => by obtain rfl : j = 0 := (by omega); rfl) (fun _ _ => hfk))
        obtain ⟨y, ey⟩ : ∃ y, y = f k := ⟨_, rfl⟩
        rw [← ey] at hc HP HE
        clear hb hcell hfk ey
        go_wp2_with (go_at_call 17; refine HP.out.mono ?_; rintro e w4 ⟨rfl, hS, hF⟩; have HS4 := Lib.hid hS; have HL4 := Lib.hid (HL.out.step hF); clear hS hF)
        exact ⟨⟨k + 1, _, by omega, by go_num, HS4, Lib.hid (HE.out _ rfl), HL4⟩, by simp [intOf]; omega⟩
      · obtain rfl : n = k := by omega
        go_wp2
        go_loopw [8, 9, 10] (fun v8 v9 v10 wr => ∃ (k : Nat), k ≤ n ∧ v8 = .int .i64 ((k : Int) - 1) ∧ Hid (SkI wr a bb rm gm d s (nuA 4096).height 250 k) ∧ Hid (Lo w wr bb s)) (fun v8 _ _ _ => (intOf v8 + 1).toNat)
        case atStart => exact ⟨n, Nat.le_refl _, rfl, HQ, HL⟩
        case round =>
          obtain ⟨k, hk, rfl, HQ2, HL2⟩ := hrel
          rcases (by cases k with | zero => exact .inl rfl | succ j => exact .inr ⟨j, rfl⟩ : k = 0 ∨ ∃ j, k = j + 1) with rfl | ⟨j, rfl⟩
          · have HO := Lib.hid (Pop_no HQ2.out)
            go_wp2_with (go_at_call 18; refine HO.out.mono ?_; rintro e w' ⟨rfl, rfl⟩)
            go_ret
            exact ⟨rfl, HL2.out.bel⟩
          · have e1 : ((j + 1 : Nat) : Int) - 1 = (j : Int) := by omega
            rw [e1]
            clear e1
            obtain ⟨b, off, rfl, hb, hcell⟩ := HW.out.2.2.2 (by omega)
            have HO := Pop_ok HQ2.out
            unfold PpPost at HO
            rw [HC.out j (by omega)] at HO
            have HO := Lib.hid HO
            have hcc : ∀ wr', Lo w wr' bb s → wr'.cell? ⟨b, off + j, none⟩ = some (.int .u64 ((f j : Nat) : Int)) := fun wr' h => HW.out.at_ (B := 0) h.bel (by omega)
            have HCC := Lib.hid hcc
            obtain ⟨y, ey⟩ : ∃ y, y = f j := ⟨_, rfl⟩
            rw [← ey] at HO HCC
            clear hb hcell hcc ey
            go_wp2_with (go_at_call 18; refine HO.out.mono ?_; rintro e w5 ⟨rfl, hS, hF⟩; have HS5 := Lib.hid hS; have HL5 := Lib.hid (HL2.out.stepS hF); have hc5 := HCC.out _ HL5.out; clear hS hF)
            exact ⟨⟨j, by omega, by go_num, HS5, HL5⟩, by simp [intOf]⟩
  · go_enter Try.func4, Try.ntmps4
    go_wp2_with (go_at_call 12; refine HA.out.mono ?_; rintro e w1 ⟨rfl, hb⟩; have HB := Lib.hid hb; clear hb)
    go_ret
    exact ⟨rfl, HB.out⟩
end Go.Proofs.Ythfdblpodnodcaa
