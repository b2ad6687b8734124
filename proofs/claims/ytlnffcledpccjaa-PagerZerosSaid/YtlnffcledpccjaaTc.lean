/-
  PagerZeros: the walk.
-/
import Derived.Test.YtlnffcledpccjaaTb
import Derived.BigQuiet
import Derived.WalkKit
import Derived.ProofKit
import Derived.OpenShut
import Derived.ShutString
import Derived.ChangeOld
import Derived.Below
namespace Go.Proofs.Ytlnffcledpccjaa
open Go.ChangeShapes Go.WideShapes Go.ChangeAt Go.RowKit
set_option linter.unusedVariables false
set_option linter.unusedSimpArgs false
open Go.RowKit
set_option maxHeartbeats 4000000 in
set_option maxRecDepth 100000 in
theorem pagerZeros_walk (a0 : Int) (a1 : Option Addr) (len1 cap1 : Nat) (l : List Nat) (w : World) (h0 : (Lit.int .u8 a0).wf = true) (hb1 : Byt w a1 len1 cap1 l) :
    Calls Try.prog 4 #[.int .u8 a0, .slice a1 len1 cap1] w fun e w' => e = .returned (.bool true) ∧ Below w.heap.size w w' := by
  have ha := bounds_u8 h0
  have hcap1 : cap1 ≤ 9223372036854775807 := hb1.2.2.2.1
  have hlc1 : len1 ≤ cap1 := hb1.2.2.1
  have HB := Lib.hid hb1
  clear hb1 h0
  by_cases hbig : 40 < len1
  · go_enter Try.func4, Try.ntmps4
    go_wp2_with (go_at_call 11; refine (awake7_any _).mono ?_; rintro e w1 ⟨rfl, hb1⟩; have HB1 := Lib.hid hb1; clear hb1)
    go_ret
    exact ⟨rfl, HB1.out⟩
  · have hl1 : len1 ≤ 40 := by omega
    have hzl : ∀ j, l.getD j 0 < 256 := fun j => by
      rw [List.getD_eq_getElem?_getD]
      rcases Nat.lt_or_ge j l.length with h | h
      · rw [List.getElem?_eq_getElem h]; exact HB.out.2.1 _ (List.getElem_mem _)
      · rw [List.getElem?_eq_none h]; decide
    have HZ := Lib.hid hzl
    clear hzl hbig
    obtain ⟨n, hn⟩ : ∃ n : Nat, (n : Int) = 1 + a0 % 8 := ⟨(1 + a0 % 8).toNat, by omega⟩
    have hn1 : 1 ≤ n := by omega
    have hn8 : n ≤ 8 := by omega
    go_enter Try.func4, Try.ntmps4
    go_wp2_with fail
    refine (awake7_any _).mono ?_
    rintro e w1 ⟨rfl, hb1⟩
    have HW1 := Lib.hid hb1
    clear hb1
    go_wp2_with fail
    refine (ANew_ok 8192 _ (by omega)).mono ?_
    rintro e w2 ⟨a, bb, rm, gm, rfl, h2, b2, ha2, hbb, hr, hg⟩
    have H2 := Lib.hid h2
    have B2 := Lib.hid (HW1.out.trans (b2.mono HW1.out.size))
    have HA := Lib.hid (show w.heap.size ≤ a ∧ w.heap.size ≤ bb ∧ w.heap.size ≤ rm ∧ w.heap.size ≤ gm from by have := HW1.out.size; omega)
    clear h2 b2 ha2 hbb hr hg
    go_wp2_with fail
    refine (SNew_ok 16 300 w2 (by omega) (by omega) (by omega)).mono ?_
    unfold NuPost
    rintro e w3 ⟨s, m, rfl, h3, b3, hs, hm⟩
    have HN := Lib.hid (S1.new (k := n) H2.out B2.out HA.out h3 b3 hs hm (by decide) hn1 (by omega) (by omega))
    clear h3 b3 hs hm
    go_wp2_with (go_at_call 14; refine (show Calls Try.prog 14 #[.pointer (some ⟨a, 0, none⟩), .pointer (some ⟨s, 0, none⟩), .int .i64 (1 + a0 % 8)] w3 _ from hn ▸ HN.out).mono ?_; rintro e w4 ⟨A, hAs, rfl, hS⟩; have HAS := Lib.hid hAs; have HS0 : Hid (S1 w A bb rm gm n 16 300 (cz (l.take 0) []) 0 (0 + 3 * 0) (fun _ => False) w4) := Lib.hid (by rw [List.take_zero, cz_nil]; exact hS); clear hAs hS)
    clear hn ha
    go_loopw [11] (fun i wr => ∃ k : Nat, k ≤ len1 ∧ i = .int .i64 k ∧ Hid (S1 w A bb rm gm n 16 300 (cz (l.take k) []) k (0 + 3 * k) (fun _ => False) wr)) (fun i _ => len1 - (intOf i).toNat)
    case atStart => exact ⟨0, Nat.zero_le _, rfl, HS0⟩
    case round =>
      obtain ⟨k, hk, rfl, HS⟩ := hrel
      by_cases hlt : k < len1
      · obtain ⟨b, off, rfl, hbl, hcell⟩ := HB.out.2.2.2.2 (by omega)
        have HD0 : Hid (w.cell? ⟨b, off + k, none⟩ = some (.int .u8 ((l.getD k 0 : Nat) : Int)) ∧ b < w.heap.size) := Lib.hid ⟨hcell k hlt, hbl⟩
        have d0 : wr.drew.cell? ⟨b, off + k, none⟩ = some (.int .u8 ((l.getD k 0 : Nat) : Int)) := (HS.out.bel.cell (p := ⟨b, off + k, none⟩) hbl).trans (hcell k hlt)
        have hz : l.getD k 0 < 256 := HZ.out k
        have HZE : Hid (upd (cz (l.take k) []) (0, l.getD k 0) (putM (cz (l.take k) [] (0, l.getD k 0)) (l.getD k 0 % 16) [1]) = cz (l.take (k + 1)) []) := Lib.hid (by rw [take_next l (by rw [HB.out.1]; exact hlt)]; exact cz_put _ _)
        clear hcell hbl
        generalize l.getD k 0 = z at d0 HD0 hz HZE
        obtain ⟨wa, ewa⟩ : ∃ wa, wa = (wr.alloc (Obj.cells #[Value.int IntKind.u8 1] 5)).drew := ⟨_, rfl⟩
        have hby : Byt wa (some ⟨wr.heap.size, 0, none⟩) 1 1 [1] := by rw [ewa]; exact byt_of_blk (l := [1]) ((Blk.new wr 5 _).drewN 1) rfl (by simp) (by unfold maxLen; omega)
        have hwa : S1 w A bb rm gm n 16 300 (cz (l.take k) []) k (0 + 3 * k) (fun q => False ∨ q = wr.heap.size) wa := by rw [ewa]; exact (HS.out.alloc _).drewN 1
        have d1 : wa.cell? ⟨b, off + k, none⟩ = some (.int .u8 (z : Int)) := (hwa.bel.cell (p := ⟨b, off + k, none⟩) HD0.out.2).trans HD0.out.1
        have hw := hwa.writeI (ai := 0) (bi := IntKind.i64.wrap (z : Int)) (oi := IntKind.i64.wrap ((z : Int).tmod 16)) (ni := 1) 0 z (z % 16) 1 1 wr.heap.size 0 [1] ⟨by show 0 ≤ _; omega, by show z ≤ _; omega⟩ (by omega) (by omega) hby (.inl (.inr rfl)) (by omega) (by omega) HZE.out rfl (by rw [IntKind.wrap_i64]; omega) (by rw [IntKind.wrap_i64, Int.tmod_eq_emod_of_nonneg (by omega)]; omega) rfl
        have HWr := Lib.hid hw
        unfold WrP at HWr
        have hz1 : (1 : Int) % 256 = 1 := by decide
        clear hw hby hwa HZE
        subst ewa
        go_wp2_with fail
        refine wp_region_held_drew (S := (fun W => W.cell? ⟨b, off + k, none⟩ = some (.int .u8 (z : Int)))) (by kernel_rfl) d0 (fun hHeld => ?_)
        refine wpAnyH_take (i := 0) (oi := ?oi_1) (v := ?_) ?hi_1 (by kernel_rfl) ?hf_1 (by kernel_rfl) ?hQ_1 ?hy_1 (by assumption) ?_
        case hi_1 => simp only [List.getElem?_toArray, List.getElem?_cons_zero, List.getElem?_cons_succ]; rfl
        case hf_1 => kernel_rfl
        case hQ_1 => exact fun _ _ _ h => h
        case hy_1 =>
          refine Or.inl ⟨by rfl, ?_⟩
          intro W hSw
          have q0 := hSw
          go_simp
          try with_reducible rfl
        try simp only [Act.put, List.setIfInBounds_toArray, List.set_cons_zero, List.set_cons_succ]
        refine wpAnyH_take (i := 1) (oi := ?oi_2) (v := ?_) ?hi_2 (by kernel_rfl) ?hf_2 (by kernel_rfl) ?hQ_2 ?hy_2 (by assumption) ?_
        case hi_2 => simp only [List.getElem?_toArray, List.getElem?_cons_zero, List.getElem?_cons_succ]; rfl
        case hf_2 => kernel_rfl
        case hQ_2 => exact fun _ _ _ h => h
        case hy_2 =>
          refine Or.inl ⟨by rfl, ?_⟩
          intro W hSw
          have q0 := hSw
          go_simp
          try with_reducible rfl
        try simp only [Act.put, List.setIfInBounds_toArray, List.set_cons_zero, List.set_cons_succ]
        refine wpAnyH_take (i := 2) (oi := ?oi_3) (v := ?_) ?hi_3 (by kernel_rfl) ?hf_3 (by kernel_rfl) ?hQ_3 ?hy_3 (by assumption) ?_
        case hi_3 => simp only [List.getElem?_toArray, List.getElem?_cons_zero, List.getElem?_cons_succ]; rfl
        case hf_3 => kernel_rfl
        case hQ_3 => exact fun _ _ _ h => h
        case hy_3 =>
          refine Or.inl ⟨by rfl, ?_⟩
          intro W hSw
          have q0 := hSw
          go_simp
          try with_reducible rfl
        try simp only [Act.put, List.setIfInBounds_toArray, List.set_cons_zero, List.set_cons_succ]
        refine wpAnyH_take (i := 3) (oi := ?oi_4) (v := ?_) ?hi_4 (by kernel_rfl) ?hf_4 (by kernel_rfl) ?hQ_4 ?hy_4 (by assumption) ?_
        case hi_4 => simp only [List.getElem?_toArray, List.getElem?_cons_zero, List.getElem?_cons_succ]; rfl
        case hf_4 => kernel_rfl
        case hQ_4 => exact fun _ _ _ h => h
        case hy_4 =>
          refine Or.inl ⟨by rfl, ?_⟩
          intro W hSw
          have q0 := hSw
          go_simp
          try with_reducible rfl
        try simp only [Act.put, List.setIfInBounds_toArray, List.set_cons_zero, List.set_cons_succ]
        refine wpAnyH_take (i := 4) (oi := ?oi_5) (v := ?_) ?hi_5 (by kernel_rfl) ?hf_5 (by kernel_rfl) ?hQ_5 ?hy_5 (by assumption) ?_
        case hi_5 => simp only [List.getElem?_toArray, List.getElem?_cons_zero, List.getElem?_cons_succ]; rfl
        case hf_5 => kernel_rfl
        case hQ_5 => exact fun _ _ _ h => h
        case hy_5 =>
          refine Or.inl ⟨by rfl, ?_⟩
          intro W hSw
          have q0 := hSw
          go_simp
          try with_reducible rfl
        try simp only [Act.put, List.setIfInBounds_toArray, List.set_cons_zero, List.set_cons_succ]
        refine wpAnyH_take (i := 5) (oi := ?oi_6) (v := ?_) ?hi_6 (by kernel_rfl) ?hf_6 (by kernel_rfl) ?hQ_6 ?hy_6 (by assumption) ?_
        case hi_6 => simp only [List.getElem?_toArray, List.getElem?_cons_zero, List.getElem?_cons_succ]; rfl
        case hf_6 => kernel_rfl
        case hQ_6 => exact fun _ _ _ h => h
        case hy_6 =>
          refine Or.inl ⟨by rfl, ?_⟩
          intro W hSw
          have q0 := hSw
          go_simp
          try with_reducible rfl
        try simp only [Act.put, List.setIfInBounds_toArray, List.set_cons_zero, List.set_cons_succ]
        refine wpAnyH_take (i := 6) (oi := ?oi_7) (v := ?_) ?hi_7 (by kernel_rfl) ?hf_7 (by kernel_rfl) ?hQ_7 ?hy_7 (by assumption) ?_
        case hi_7 => simp only [List.getElem?_toArray, List.getElem?_cons_zero, List.getElem?_cons_succ]; rfl
        case hf_7 => kernel_rfl
        case hQ_7 => exact fun _ _ _ h => h
        case hy_7 =>
          refine Or.inl ⟨by rfl, ?_⟩
          intro W hSw
          have q0 := hSw
          go_simp
          try with_reducible rfl
        try simp only [Act.put, List.setIfInBounds_toArray, List.set_cons_zero, List.set_cons_succ]
        refine wpAnyH_take (i := 7) (oi := ?oi_8) (v := ?_) ?hi_8 (by kernel_rfl) ?hf_8 (by kernel_rfl) ?hQ_8 ?hy_8 (by assumption) ?_
        case hi_8 => simp only [List.getElem?_toArray, List.getElem?_cons_zero, List.getElem?_cons_succ]; rfl
        case hf_8 => kernel_rfl
        case hQ_8 => exact fun _ _ _ h => h
        case hy_8 =>
          refine Or.inl ⟨by rfl, ?_⟩
          intro W hSw
          have q0 := hSw
          go_simp
          try with_reducible rfl
        try simp only [Act.put, List.setIfInBounds_toArray, List.set_cons_zero, List.set_cons_succ]
        refine wpAnyH_take (i := 8) (oi := ?oi_9) (v := ?_) ?hi_9 (by kernel_rfl) ?hf_9 (by kernel_rfl) ?hQ_9 ?hy_9 (by assumption) ?_
        case hi_9 => simp only [List.getElem?_toArray, List.getElem?_cons_zero, List.getElem?_cons_succ]; rfl
        case hf_9 => kernel_rfl
        case hQ_9 => exact fun _ _ _ h => h
        case hy_9 =>
          refine Or.inl ⟨by rfl, ?_⟩
          intro W hSw
          have q0 := hSw
          go_simp
          try with_reducible rfl
        try simp only [Act.put, List.setIfInBounds_toArray, List.set_cons_zero, List.set_cons_succ]
        refine wpAnyH_take (i := 9) (oi := ?oi_10) (v := ?_) ?hi_10 (by kernel_rfl) ?hf_10 (by kernel_rfl) ?hQ_10 ?hy_10 (by assumption) ?_
        case hi_10 => simp only [List.getElem?_toArray, List.getElem?_cons_zero, List.getElem?_cons_succ]; rfl
        case hf_10 => kernel_rfl
        case hQ_10 => exact fun _ _ _ h => h
        case hy_10 =>
          refine Or.inl ⟨by rfl, ?_⟩
          intro W hSw
          have q0 := hSw
          go_simp
          try with_reducible rfl
        try simp only [Act.put, List.setIfInBounds_toArray, List.set_cons_zero, List.set_cons_succ]
        refine wpAnyH_take (i := 10) (oi := ?oi_11) (v := ?_) ?hi_11 (by kernel_rfl) ?hf_11 (by kernel_rfl) ?hQ_11 ?hy_11 (by assumption) ?_
        case hi_11 => simp only [List.getElem?_toArray, List.getElem?_cons_zero, List.getElem?_cons_succ]; rfl
        case hf_11 => kernel_rfl
        case hQ_11 => exact fun _ _ _ h => h
        case hy_11 =>
          refine Or.inl ⟨by rfl, ?_⟩
          intro W hSw
          have q0 := hSw
          go_simp
          try with_reducible rfl
        try simp only [Act.put, List.setIfInBounds_toArray, List.set_cons_zero, List.set_cons_succ]
        refine wpAnyH_take (i := 11) (oi := ?oi_12) (v := ?_) ?hi_12 (by kernel_rfl) ?hf_12 (by kernel_rfl) ?hQ_12 ?hy_12 (by assumption) ?_
        case hi_12 => simp only [List.getElem?_toArray, List.getElem?_cons_zero, List.getElem?_cons_succ]; rfl
        case hf_12 => kernel_rfl
        case hQ_12 => exact fun _ _ _ h => h
        case hy_12 =>
          refine Or.inl ⟨by rfl, ?_⟩
          intro W hSw
          have q0 := hSw
          go_simp
          try with_reducible rfl
        try simp only [Act.put, List.setIfInBounds_toArray, List.set_cons_zero, List.set_cons_succ]
        refine wpAnyH_ready (rs := [12]) (by kernel_rfl) (by simp) ?_
        refine AllReadyH.cons (o := ?oi_13) ?hi_13 (fun K hK => ?_) AllReadyH.nil
        case hi_13 => simp only [List.getElem?_toArray, List.getElem?_cons_zero, List.getElem?_cons_succ]; rfl
        go_simp
        refine hK.out _ _ d1 (fun hHeld => ?_)
        clear hK K
        try simp only [Act.put, List.setIfInBounds_toArray, List.set_cons_zero, List.set_cons_succ]
        refine wpAnyH_ready (rs := [13]) (by kernel_rfl) (by simp) ?_
        refine AllReadyH.cons (o := ?oi_14) ?hi_14 (fun K hK => ?_) AllReadyH.nil
        case hi_14 => simp only [List.getElem?_toArray, List.getElem?_cons_zero, List.getElem?_cons_succ]; rfl
        go_simp
        (go_at_call 16
         with_reducible refine HWr.out.mono ?_
         rintro e w5 ⟨rfl, h5, k5⟩
         have H5 := Lib.hid (h5.less (X' := fun _ => False) (fun _ q => q.elim))
         have d5 : w5.cell? ⟨b, off + k, none⟩ = some (.int .u8 (z : Int)) := (h5.bel.cell (p := ⟨b, off + k, none⟩) HD0.out.2).trans HD0.out.1
         clear h5 k5)
        refine hK.out _ _ d5 (fun hHeld => ?_)
        clear hK K
        try simp only [Act.put, List.setIfInBounds_toArray, List.set_cons_zero, List.set_cons_succ]
        refine wpAnyH_take (i := 14) (oi := ?oi_15) (v := ?_) ?hi_15 (by kernel_rfl) ?hf_15 (by kernel_rfl) ?hQ_15 ?hy_15 (by assumption) ?_
        case hi_15 => simp only [List.getElem?_toArray, List.getElem?_cons_zero, List.getElem?_cons_succ]; rfl
        case hf_15 => kernel_rfl
        case hQ_15 => exact fun _ _ _ h => h
        case hy_15 =>
          refine Or.inl ⟨by rfl, ?_⟩
          intro W hSw
          have q0 := hSw
          go_simp
          try with_reducible rfl
        try simp only [Act.put, List.setIfInBounds_toArray, List.set_cons_zero, List.set_cons_succ]
        refine wpAnyH_done (by kernel_rfl) ?_ _
        clear hHeld d0 d1 d5
        go_wp2
        go_roundw
        case rel => exact ⟨k + 1, by omega, by go_num, Lib.hid (H5.out.more (by omega) (by omega))⟩
        case measure => simp [intOf]; omega
      · obtain rfl : len1 = k := by omega
        have hfl := HS.out.flush (by omega) (by omega)
        have hlt1 : l.take len1 = l := by rw [← HB.out.1, List.take_length]
        rw [hlt1] at hfl
        have HFl := Lib.hid hfl
        unfold FlP at HFl
        clear hfl hlt1
        go_wp2_with (go_at_call 18; refine HFl.out.mono ?_; rintro e w5 ⟨rfl, h5, k5, hu⟩; have H5 := Lib.hid h5; have HU := Lib.hid hu; clear h5 k5 hu)
        clear HFl
        go_loopw [12, 13] (fun v12 v13 wr2 => ∃ (q i : Nat), i ≤ len1 ∧ q ≤ i ∧ v12 = .int .i64 q ∧ v13 = .int .i64 i ∧ Hid (∃ m, wr2 = w5.drewN m) ∧ Hid (Dst l i q)) (fun _ i _ => len1 - (intOf i).toNat)
        case atStart => exact ⟨0, 0, Nat.zero_le _, Nat.le_refl _, rfl, rfl, Lib.hid ⟨0, rfl⟩, Lib.hid (Dst.nil l)⟩
        case round =>
          obtain ⟨q, i, hi, hq, rfl, rfl, HQ2, HD⟩ := hrel
          by_cases hlt : i < len1
          · obtain ⟨b, off, rfl, hbl, hcell⟩ := HB.out.2.2.2.2 (by omega)
            have HD0 : Hid (∀ i, i < len1 → w.cell? ⟨b, off + i, none⟩ = some (.int .u8 ((l.getD i 0 : Nat) : Int))) := Lib.hid hcell
            have HBL := Lib.hid hbl
            have HM0 := Lib.hid (FstP.nil l (l.getD i 0))
            clear hcell hbl
            go_wp2_with fail
            go_loopw [14, 15] (fun v14 v15 wr3 => ∃ (f : Bool) (j : Nat), j ≤ i ∧ v14 = .bool f ∧ v15 = .int .i64 j ∧ Hid (∃ m, wr3 = w5.drewN m) ∧ Hid (FstP f (l.getD i 0) (l.take j))) (fun _ j _ => i - (intOf j).toNat)
            case atStart => exact ⟨true, 0, Nat.zero_le _, rfl, rfl, HQ2, HM0⟩
            case round =>
              obtain ⟨f, j, hj, rfl, rfl, HQ3, HM⟩ := hrel
              by_cases hjl : j < i
              · have hc1 : ∀ y, (wr.drewN y).cell? ⟨b, off + j, none⟩ = some (.int .u8 ((l.getD j 0 : Nat) : Int)) := fun y => by obtain ⟨m, rfl⟩ := HQ3.out; exact (H5.out.bel.cell (p := ⟨b, off + j, none⟩) HBL.out).trans (HD0.out j (by omega))
                have hc2 : ∀ y, (wr.drewN y).cell? ⟨b, off + i, none⟩ = some (.int .u8 ((l.getD i 0 : Nat) : Int)) := fun y => by obtain ⟨m, rfl⟩ := HQ3.out; exact (H5.out.bel.cell (p := ⟨b, off + i, none⟩) HBL.out).trans (HD0.out i hlt)
                cases f with
                | false =>
                  have HM2 := Lib.hid (HM.out.stay (by rw [HB.out.1]; omega))
                  clear hc1 hc2
                  go_wp2_with fail
                  go_quiet (fail)
                  go_wp2
                  go_roundw
                  case rel => exact ⟨false, j + 1, by omega, rfl, by go_num, Lib.hid (by obtain ⟨m, rfl⟩ := HQ3.out; exact ⟨m + _, World.drewN_drewN _ _ _⟩), HM2⟩
                  case measure => simp [intOf]; omega
                | true =>
                  have HM2 := Lib.hid (HM.out.next (by rw [HB.out.1]; omega))
                  generalize l.getD j 0 = zj at hc1 HM2
                  generalize l.getD i 0 = zi at hc2 HM2
                  go_wp2_with fail
                  go_quiet (fail)
                  go_wp2
                  go_roundw
                  case rel => exact ⟨_, j + 1, by omega, rfl, by go_num, Lib.hid (by obtain ⟨m, rfl⟩ := HQ3.out; exact ⟨m + _, World.drewN_drewN _ _ _⟩), HM2⟩
                  case measure => simp [intOf]; omega
              · obtain rfl : i = j := by omega
                cases f with
                | true =>
                  have HDN := Lib.hid (HM.out.new HD.out (by rw [HB.out.1]; exact hlt))
                  go_wp2
                  go_roundw
                  case rel => exact ⟨q + 1, i + 1, by omega, by omega, by go_num, by go_num, HQ3, HDN⟩
                  case measure => simp [intOf]; omega
                | false =>
                  have HDN := Lib.hid (HM.out.old HD.out (by rw [HB.out.1]; exact hlt))
                  go_wp2
                  go_roundw
                  case rel => exact ⟨q, i + 1, by omega, by omega, rfl, by go_num, HQ3, HDN⟩
                  case measure => simp [intOf]; omega
          · obtain rfl : len1 = i := by omega
            have hp := HD.out
            rw [← HB.out.1] at hp
            obtain ⟨L, hL1, hL2, hL3⟩ := hp.pages
            obtain ⟨m, hm⟩ := HQ2.out
            have hu := HU.out L m hL1 hL2
            rw [hL3, HAS.out, ← hm] at hu
            have HUq := Lib.hid hu
            have hne : ((q : Int) != (q : Int)) = false := by simp
            have HT0 : Hid (S1 w A bb rm gm n 16 300 (cz l (l.take 0)) len1 (0 + 3 * len1 + 2 * n) (fun _ => False) wr) := Lib.hid (by rw [List.take_zero, hm]; exact H5.out.drewN m)
            clear hp hL1 hL2 hL3 hu hm HU HD HQ2
            go_wp2_with (go_at_call 21; refine HUq.out.mono ?_; rintro e w6 ⟨rfl, hw6⟩; subst hw6)
            clear HUq hne
            go_loopw [16] (fun i wr => ∃ k : Nat, k ≤ len1 ∧ i = .int .i64 k ∧ Hid (S1 w A bb rm gm n 16 300 (cz l (l.take k)) (len1 + k) (0 + 3 * len1 + 2 * n + 3 * k) (fun _ => False) wr)) (fun i _ => len1 - (intOf i).toNat)
            case atStart => exact ⟨0, Nat.zero_le _, rfl, HT0⟩
            case round =>
              obtain ⟨k, hk, rfl, HS⟩ := hrel
              by_cases hlt : k < len1
              · obtain ⟨b, off, rfl, hbl, hcell⟩ := HB.out.2.2.2.2 (by omega)
                have HD0 : Hid (w.cell? ⟨b, off + k, none⟩ = some (.int .u8 ((l.getD k 0 : Nat) : Int)) ∧ b < w.heap.size) := Lib.hid ⟨hcell k hlt, hbl⟩
                have d0 : wr.drew.cell? ⟨b, off + k, none⟩ = some (.int .u8 ((l.getD k 0 : Nat) : Int)) := (HS.out.bel.cell (p := ⟨b, off + k, none⟩) hbl).trans (hcell k hlt)
                have hz : l.getD k 0 < 256 := HZ.out k
                have HZE : Hid (upd (cz l (l.take k)) (0, l.getD k 0) (putM (cz l (l.take k) (0, l.getD k 0)) (l.getD k 0 % 16) [0]) = cz l (l.take (k + 1))) := Lib.hid (by rw [take_next l (by rw [HB.out.1]; exact hlt)]; exact cz_zero _ _ _)
                clear hcell hbl
                generalize l.getD k 0 = z at d0 HD0 hz HZE
                obtain ⟨wa, ewa⟩ : ∃ wa, wa = (wr.alloc (Obj.cells #[Value.int IntKind.u8 0] 5)).drew := ⟨_, rfl⟩
                have hby : Byt wa (some ⟨wr.heap.size, 0, none⟩) 1 1 [0] := by rw [ewa]; exact byt_of_blk (l := [0]) ((Blk.new wr 5 _).drewN 1) rfl (by simp) (by unfold maxLen; omega)
                have hwa : S1 w A bb rm gm n 16 300 (cz l (l.take k)) (len1 + k) (0 + 3 * len1 + 2 * n + 3 * k) (fun q => False ∨ q = wr.heap.size) wa := by rw [ewa]; exact (HS.out.alloc _).drewN 1
                have d1 : wa.cell? ⟨b, off + k, none⟩ = some (.int .u8 (z : Int)) := (hwa.bel.cell (p := ⟨b, off + k, none⟩) HD0.out.2).trans HD0.out.1
                have hw := hwa.writeI (ai := 0) (bi := IntKind.i64.wrap (z : Int)) (oi := IntKind.i64.wrap ((z : Int).tmod 16)) (ni := 1) 0 z (z % 16) 1 1 wr.heap.size 0 [0] ⟨by show 0 ≤ _; omega, by show z ≤ _; omega⟩ (by omega) (by omega) hby (.inl (.inr rfl)) (by omega) (by omega) HZE.out rfl (by rw [IntKind.wrap_i64]; omega) (by rw [IntKind.wrap_i64, Int.tmod_eq_emod_of_nonneg (by omega)]; omega) rfl
                have HWr := Lib.hid hw
                unfold WrP at HWr
                have hz1 : (0 : Int) % 256 = 0 := by decide
                clear hw hby hwa HZE
                subst ewa
                go_wp2_with fail
                refine wp_region_held_drew (S := (fun W => W.cell? ⟨b, off + k, none⟩ = some (.int .u8 (z : Int)))) (by kernel_rfl) d0 (fun hHeld => ?_)
                refine wpAnyH_take (i := 0) (oi := ?oi_16) (v := ?_) ?hi_16 (by kernel_rfl) ?hf_16 (by kernel_rfl) ?hQ_16 ?hy_16 (by assumption) ?_
                case hi_16 => simp only [List.getElem?_toArray, List.getElem?_cons_zero, List.getElem?_cons_succ]; rfl
                case hf_16 => kernel_rfl
                case hQ_16 => exact fun _ _ _ h => h
                case hy_16 =>
                  refine Or.inl ⟨by rfl, ?_⟩
                  intro W hSw
                  have q0 := hSw
                  go_simp
                  try with_reducible rfl
                try simp only [Act.put, List.setIfInBounds_toArray, List.set_cons_zero, List.set_cons_succ]
                refine wpAnyH_take (i := 1) (oi := ?oi_17) (v := ?_) ?hi_17 (by kernel_rfl) ?hf_17 (by kernel_rfl) ?hQ_17 ?hy_17 (by assumption) ?_
                case hi_17 => simp only [List.getElem?_toArray, List.getElem?_cons_zero, List.getElem?_cons_succ]; rfl
                case hf_17 => kernel_rfl
                case hQ_17 => exact fun _ _ _ h => h
                case hy_17 =>
                  refine Or.inl ⟨by rfl, ?_⟩
                  intro W hSw
                  have q0 := hSw
                  go_simp
                  try with_reducible rfl
                try simp only [Act.put, List.setIfInBounds_toArray, List.set_cons_zero, List.set_cons_succ]
                refine wpAnyH_take (i := 2) (oi := ?oi_18) (v := ?_) ?hi_18 (by kernel_rfl) ?hf_18 (by kernel_rfl) ?hQ_18 ?hy_18 (by assumption) ?_
                case hi_18 => simp only [List.getElem?_toArray, List.getElem?_cons_zero, List.getElem?_cons_succ]; rfl
                case hf_18 => kernel_rfl
                case hQ_18 => exact fun _ _ _ h => h
                case hy_18 =>
                  refine Or.inl ⟨by rfl, ?_⟩
                  intro W hSw
                  have q0 := hSw
                  go_simp
                  try with_reducible rfl
                try simp only [Act.put, List.setIfInBounds_toArray, List.set_cons_zero, List.set_cons_succ]
                refine wpAnyH_take (i := 3) (oi := ?oi_19) (v := ?_) ?hi_19 (by kernel_rfl) ?hf_19 (by kernel_rfl) ?hQ_19 ?hy_19 (by assumption) ?_
                case hi_19 => simp only [List.getElem?_toArray, List.getElem?_cons_zero, List.getElem?_cons_succ]; rfl
                case hf_19 => kernel_rfl
                case hQ_19 => exact fun _ _ _ h => h
                case hy_19 =>
                  refine Or.inl ⟨by rfl, ?_⟩
                  intro W hSw
                  have q0 := hSw
                  go_simp
                  try with_reducible rfl
                try simp only [Act.put, List.setIfInBounds_toArray, List.set_cons_zero, List.set_cons_succ]
                refine wpAnyH_take (i := 4) (oi := ?oi_20) (v := ?_) ?hi_20 (by kernel_rfl) ?hf_20 (by kernel_rfl) ?hQ_20 ?hy_20 (by assumption) ?_
                case hi_20 => simp only [List.getElem?_toArray, List.getElem?_cons_zero, List.getElem?_cons_succ]; rfl
                case hf_20 => kernel_rfl
                case hQ_20 => exact fun _ _ _ h => h
                case hy_20 =>
                  refine Or.inl ⟨by rfl, ?_⟩
                  intro W hSw
                  have q0 := hSw
                  go_simp
                  try with_reducible rfl
                try simp only [Act.put, List.setIfInBounds_toArray, List.set_cons_zero, List.set_cons_succ]
                refine wpAnyH_take (i := 5) (oi := ?oi_21) (v := ?_) ?hi_21 (by kernel_rfl) ?hf_21 (by kernel_rfl) ?hQ_21 ?hy_21 (by assumption) ?_
                case hi_21 => simp only [List.getElem?_toArray, List.getElem?_cons_zero, List.getElem?_cons_succ]; rfl
                case hf_21 => kernel_rfl
                case hQ_21 => exact fun _ _ _ h => h
                case hy_21 =>
                  refine Or.inl ⟨by rfl, ?_⟩
                  intro W hSw
                  have q0 := hSw
                  go_simp
                  try with_reducible rfl
                try simp only [Act.put, List.setIfInBounds_toArray, List.set_cons_zero, List.set_cons_succ]
                refine wpAnyH_take (i := 6) (oi := ?oi_22) (v := ?_) ?hi_22 (by kernel_rfl) ?hf_22 (by kernel_rfl) ?hQ_22 ?hy_22 (by assumption) ?_
                case hi_22 => simp only [List.getElem?_toArray, List.getElem?_cons_zero, List.getElem?_cons_succ]; rfl
                case hf_22 => kernel_rfl
                case hQ_22 => exact fun _ _ _ h => h
                case hy_22 =>
                  refine Or.inl ⟨by rfl, ?_⟩
                  intro W hSw
                  have q0 := hSw
                  go_simp
                  try with_reducible rfl
                try simp only [Act.put, List.setIfInBounds_toArray, List.set_cons_zero, List.set_cons_succ]
                refine wpAnyH_take (i := 7) (oi := ?oi_23) (v := ?_) ?hi_23 (by kernel_rfl) ?hf_23 (by kernel_rfl) ?hQ_23 ?hy_23 (by assumption) ?_
                case hi_23 => simp only [List.getElem?_toArray, List.getElem?_cons_zero, List.getElem?_cons_succ]; rfl
                case hf_23 => kernel_rfl
                case hQ_23 => exact fun _ _ _ h => h
                case hy_23 =>
                  refine Or.inl ⟨by rfl, ?_⟩
                  intro W hSw
                  have q0 := hSw
                  go_simp
                  try with_reducible rfl
                try simp only [Act.put, List.setIfInBounds_toArray, List.set_cons_zero, List.set_cons_succ]
                refine wpAnyH_take (i := 8) (oi := ?oi_24) (v := ?_) ?hi_24 (by kernel_rfl) ?hf_24 (by kernel_rfl) ?hQ_24 ?hy_24 (by assumption) ?_
                case hi_24 => simp only [List.getElem?_toArray, List.getElem?_cons_zero, List.getElem?_cons_succ]; rfl
                case hf_24 => kernel_rfl
                case hQ_24 => exact fun _ _ _ h => h
                case hy_24 =>
                  refine Or.inl ⟨by rfl, ?_⟩
                  intro W hSw
                  have q0 := hSw
                  go_simp
                  try with_reducible rfl
                try simp only [Act.put, List.setIfInBounds_toArray, List.set_cons_zero, List.set_cons_succ]
                refine wpAnyH_take (i := 9) (oi := ?oi_25) (v := ?_) ?hi_25 (by kernel_rfl) ?hf_25 (by kernel_rfl) ?hQ_25 ?hy_25 (by assumption) ?_
                case hi_25 => simp only [List.getElem?_toArray, List.getElem?_cons_zero, List.getElem?_cons_succ]; rfl
                case hf_25 => kernel_rfl
                case hQ_25 => exact fun _ _ _ h => h
                case hy_25 =>
                  refine Or.inl ⟨by rfl, ?_⟩
                  intro W hSw
                  have q0 := hSw
                  go_simp
                  try with_reducible rfl
                try simp only [Act.put, List.setIfInBounds_toArray, List.set_cons_zero, List.set_cons_succ]
                refine wpAnyH_take (i := 10) (oi := ?oi_26) (v := ?_) ?hi_26 (by kernel_rfl) ?hf_26 (by kernel_rfl) ?hQ_26 ?hy_26 (by assumption) ?_
                case hi_26 => simp only [List.getElem?_toArray, List.getElem?_cons_zero, List.getElem?_cons_succ]; rfl
                case hf_26 => kernel_rfl
                case hQ_26 => exact fun _ _ _ h => h
                case hy_26 =>
                  refine Or.inl ⟨by rfl, ?_⟩
                  intro W hSw
                  have q0 := hSw
                  go_simp
                  try with_reducible rfl
                try simp only [Act.put, List.setIfInBounds_toArray, List.set_cons_zero, List.set_cons_succ]
                refine wpAnyH_take (i := 11) (oi := ?oi_27) (v := ?_) ?hi_27 (by kernel_rfl) ?hf_27 (by kernel_rfl) ?hQ_27 ?hy_27 (by assumption) ?_
                case hi_27 => simp only [List.getElem?_toArray, List.getElem?_cons_zero, List.getElem?_cons_succ]; rfl
                case hf_27 => kernel_rfl
                case hQ_27 => exact fun _ _ _ h => h
                case hy_27 =>
                  refine Or.inl ⟨by rfl, ?_⟩
                  intro W hSw
                  have q0 := hSw
                  go_simp
                  try with_reducible rfl
                try simp only [Act.put, List.setIfInBounds_toArray, List.set_cons_zero, List.set_cons_succ]
                refine wpAnyH_ready (rs := [12]) (by kernel_rfl) (by simp) ?_
                refine AllReadyH.cons (o := ?oi_28) ?hi_28 (fun K hK => ?_) AllReadyH.nil
                case hi_28 => simp only [List.getElem?_toArray, List.getElem?_cons_zero, List.getElem?_cons_succ]; rfl
                go_simp
                refine hK.out _ _ d1 (fun hHeld => ?_)
                clear hK K
                try simp only [Act.put, List.setIfInBounds_toArray, List.set_cons_zero, List.set_cons_succ]
                refine wpAnyH_ready (rs := [13]) (by kernel_rfl) (by simp) ?_
                refine AllReadyH.cons (o := ?oi_29) ?hi_29 (fun K hK => ?_) AllReadyH.nil
                case hi_29 => simp only [List.getElem?_toArray, List.getElem?_cons_zero, List.getElem?_cons_succ]; rfl
                go_simp
                (go_at_call 16
                 with_reducible refine HWr.out.mono ?_
                 rintro e w5 ⟨rfl, h5, k5⟩
                 have H5 := Lib.hid (h5.less (X' := fun _ => False) (fun _ q => q.elim))
                 have d5 : w5.cell? ⟨b, off + k, none⟩ = some (.int .u8 (z : Int)) := (h5.bel.cell (p := ⟨b, off + k, none⟩) HD0.out.2).trans HD0.out.1
                 clear h5 k5)
                refine hK.out _ _ d5 (fun hHeld => ?_)
                clear hK K
                try simp only [Act.put, List.setIfInBounds_toArray, List.set_cons_zero, List.set_cons_succ]
                refine wpAnyH_take (i := 14) (oi := ?oi_30) (v := ?_) ?hi_30 (by kernel_rfl) ?hf_30 (by kernel_rfl) ?hQ_30 ?hy_30 (by assumption) ?_
                case hi_30 => simp only [List.getElem?_toArray, List.getElem?_cons_zero, List.getElem?_cons_succ]; rfl
                case hf_30 => kernel_rfl
                case hQ_30 => exact fun _ _ _ h => h
                case hy_30 =>
                  refine Or.inl ⟨by rfl, ?_⟩
                  intro W hSw
                  have q0 := hSw
                  go_simp
                  try with_reducible rfl
                try simp only [Act.put, List.setIfInBounds_toArray, List.set_cons_zero, List.set_cons_succ]
                refine wpAnyH_done (by kernel_rfl) ?_ _
                clear hHeld d0 d1 d5
                go_wp2
                go_roundw
                case rel => exact ⟨k + 1, by omega, by go_num, Lib.hid (H5.out.more (by omega) (by omega))⟩
                case measure => simp [intOf]; omega
              · obtain rfl : len1 = k := by omega
                have hfl := HS.out.flush (by omega) (by omega)
                have hlt1 : l.take len1 = l := by rw [← HB.out.1, List.take_length]
                rw [hlt1, cz_done] at hfl
                have HFl := Lib.hid hfl
                unfold FlP at HFl
                clear hfl hlt1
                go_wp2_with (first
                  | (go_at_call 18; refine HFl.out.mono ?_; rintro e w7 ⟨rfl, h7, k7, hu⟩
                     have H7 := Lib.hid h7
                     have hu0 := hu [] 0 List.nodup_nil (fun x => ⟨fun q => (by cases q), fun q => absurd rfl q⟩)
                     rw [HAS.out] at hu0
                     have HU7 : Hid (Calls Try.prog 21 #[.pointer (some ⟨s, 0, none⟩)] w7 fun e w'' => e = .returned (.int .i64 0) ∧ w'' = w7) := Lib.hid hu0
                     clear h7 k7 hu hu0)
                  | (go_at_call 21; refine HU7.out.mono ?_; rintro e w8 ⟨rfl, hw8⟩; subst hw8))
                go_ret
                exact ⟨rfl, H7.out.bel⟩
end Go.Proofs.Ytlnffcledpccjaa
