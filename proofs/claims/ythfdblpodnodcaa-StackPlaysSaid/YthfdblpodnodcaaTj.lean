/-
  The walk of StackMoves.
-/
import Derived.Test.YthfdblpodnodcaaTi
namespace Go.Proofs.Ythfdblpodnodcaa
open Go.RowKit
set_option linter.unusedVariables false
theorem Con.far_cpy {d : Ad} {at_ h p : Nat} {F : Nat → Nat} {l : List Nat} (H : Con d at_ h F) (hl : p + l.length ≤ d.mem.length) (hp : p + l.length ≤ at_ ∨ at_ + 8 * h ≤ p) : Con (d.cpy p l) at_ h F := by
  intro j hj
  show wdN (putM d.mem p l) (at_ + 8 * j) 8 = F j
  rw [wdN_far hl (by omega)]
  exact H j hj
section
variable {w w1 w2 : World} {a bb rm gm s t h1 h2 : Nat} {d : Ad} {F G : Nat → Nat}
theorem Duo.unw_s {c n : Nat} (H : Duo w w1 a bb rm gm s t d h1 h2 F G) (hn : c + n ≤ h1) (hS : SkI w2 a bb rm gm (d.cpy (0 + 8 * c) ((d.mem.drop (0 + 8 * (h1 - n))).take (8 * n))) s 0 64 (c + n)) (hF : Fr (fun k => k = bb ∨ k = s) w1 w2) :
    Duo w w2 a bb rm gm s t (d.cpy (0 + 8 * c) ((d.mem.drop (0 + 8 * (h1 - n))).take (8 * n))) (c + n) h2 (fun j => if j < c then F j else F (h1 - n + (j - c))) G := by
  have hl := H.s2.len
  have hh := H.s1.hh
  have hh2 := H.s2.hh
  refine ⟨hS, H.s2.other hS.are hF ?_ rfl, H.c1.unwind hn (by omega), H.c2.far_cpy (by simp; omega) (.inl (by simp; omega)), H.ne, H.l1.step hF, ?_⟩
  · rintro (q | q)
    · exact H.s2.sb q
    · exact H.ne q.symm
  · exact ⟨hF.below H.l1.bel H.l1.bel.size (fun k hk => by rcases hk with rfl | rfl; exact H.l1.hb; exact H.l1.hs), H.l1.hb, H.l2.hs⟩
theorem Duo.row_t {f G' : Nat → Nat} {n : Nat} (H : Duo w w1 a bb rm gm s t d h1 h2 F G) (hS : SkI w2 a bb rm gm (d.pus (512 + 8 * h2) f n) t 512 64 (h2 + n)) (hF : Fr (fun k => k = bb ∨ k = t) w1 w2) (h64 : ∀ j, j < n → f j < 18446744073709551616) (e : ∀ j, j < n → f j = G' (h2 + j)) (e2 : ∀ j, j < h2 → G j = G' j) :
    Duo w w2 a bb rm gm s t (d.pus (512 + 8 * h2) f n) h1 (h2 + n) F G' := by
  have hl := H.s2.len
  have hh := hS.hh
  have hh2 := H.s1.hh
  refine ⟨H.s1.other hS.are hF ?_ rfl, hS, H.c1.far (by omega) (.inr (by omega)), (H.c2.cong e2).push (by omega) e h64, H.ne, ?_, H.l2.step hF⟩
  · rintro (q | q)
    · exact H.s1.sb q
    · exact H.ne q
  · exact ⟨hF.below H.l2.bel H.l2.bel.size (fun k hk => by rcases hk with rfl | rfl; exact H.l1.hb; exact H.l2.hs), H.l1.hb, H.l1.hs⟩
end
theorem con_row' {w : World} {d : Ad} {at_ n h k g : Nat} {F : Nat → Nat} (hC : Con d at_ n F) (hn : h + k ≤ n) (H : Blk w g 38 (wRow k k fun i => wdN d.mem (at_ + 8 * (h + i)) 8).toArray) : Blk w g 38 (wRow k k fun i => F (h + i)).toArray := by
  have e : wRow k k (fun i => wdN d.mem (at_ + 8 * (h + i)) 8) = wRow k k (fun i => F (h + i)) := by
    unfold wRow
    apply List.map_congr_left
    intro i hi
    have := List.mem_range.1 hi
    rw [if_pos this, if_pos this]
    show U64 (wdN d.mem (at_ + 8 * (h + i)) 8) = U64 (F (h + i))
    rw [hC (h + i) (by omega)]
  rw [e] at H
  exact H
set_option maxHeartbeats 2000000 in
set_option maxRecDepth 100000 in
theorem stackMoves_walk (A : Option Addr) (n cap : Nat) (f : Nat → Nat) (x y : Int) (w : World) (hA : Wrd w A n cap f) (hx : (Lit.int .u8 x).wf = true) (hy : (Lit.int .u8 y).wf = true) : Calls Try.prog 7 #[.slice A n cap, .int .u8 x, .int .u8 y] w fun e w' => e = .returned (.bool true) ∧ Below w.heap.size w w' := by
  have HA := Lib.hid (awake19_any w)
  have hcap : n ≤ cap := hA.1
  have hcap2 : cap ≤ 9223372036854775807 := hA.2.1
  have HW := Lib.hid hA
  have hx' := wf_u8 hx
  have hy' := wf_u8 hy
  obtain ⟨X, rfl⟩ : ∃ X : Nat, x = X := ⟨x.toNat, by omega⟩
  obtain ⟨Y, rfl⟩ : ∃ Y : Nat, y = Y := ⟨y.toNat, by omega⟩
  have hX : X < 256 := by omega
  have hY : Y < 256 := by omega
  clear hA hx hy hx' hy'
  by_cases hn : n ≤ 60
  · go_enter Try.func7, Try.ntmps7
    go_wp2_with (go_at_call 12; refine HA.out.mono ?_; rintro e w1 ⟨rfl, hb⟩; have HB := Lib.hid hb; clear hb)
    go_wp2_with fail
    refine (ANew_ok 2048 _ (by omega)).mono ?_
    rintro e w2 ⟨a, bb, rm, gm, rfl, h1, b1, ha, hb, hr, hg⟩
    have HN := Lib.hid (SkNew64 h1)
    have hs1 := HB.out.size
    have B1 := Lib.hid (And.intro (HB.out.trans (b1.mono hs1)) (And.intro (Nat.le_trans hs1 ha) (And.intro (Nat.le_trans hs1 hb) (And.intro (Nat.le_trans hs1 hr) (Nat.le_trans hs1 hg)))))
    clear h1 b1 ha hb hr hg hs1
    go_wp2_with (first
      | (go_at_call 14; with_reducible refine HN.out.mono ?_; rintro e w3 ⟨s, rfl, hs, hS, hF⟩; have HS3 := Lib.hid hS; have HF3 := Lib.hid hF; have Hs3 := Lib.hid hs; have HN2 := Lib.hid (SkNew64' hS.are); clear hs hS hF)
      | (go_at_call 14; with_reducible refine HN2.out.mono ?_; rintro e w4 ⟨t, rfl, ht, hT, hF⟩; have HD := Lib.hid (duo_new (F := f) (G := f) B1.out.1 B1.out.2.1 B1.out.2.2.1 B1.out.2.2.2.1 B1.out.2.2.2.2 Hs3.out HS3.out HF3.out ht hT hF); clear ht hT hF))
    go_loopw [13] (fun v13 wr => ∃ (k : Nat) (d : Ad), k ≤ n ∧ v13 = .int .i64 k ∧ Hid (Duo w wr a bb rm gm s t d k k f f)) (fun v13 _ => n - (intOf v13).toNat)
    case atStart => exact ⟨0, _, Nat.zero_le _, rfl, HD⟩
    case round =>
      obtain ⟨k, d, hk, rfl, HQ⟩ := hrel
      by_cases hlt : k < n
      · obtain ⟨b, off, rfl, hb, hcell⟩ := HW.out.2.2.2 (by omega)
        have hc := HW.out.at_ (B := 0) HQ.out.l1.bel hlt
        have hfk := HW.out.2.2.1 k hlt
        have HP := push1 HQ.out.s1 (f k) hfk (by omega)
        unfold P1Post at HP
        have HP := Lib.hid HP
        have HFK := Lib.hid hfk
        obtain ⟨y, ey⟩ : ∃ y, y = f k := ⟨_, rfl⟩
        have HY := Lib.hid ey
        rw [← ey] at hc HP
        clear hb hcell hfk ey
        go_wp2_with (first
          | (go_at_call 17
             with_reducible refine HP.out.mono ?_
             rintro e w5 ⟨rfl, hS, hF⟩
             have HQ5 := Lib.hid (HQ.out.push_s hS hF (by rw [HY.out]; exact HFK.out) HY.out)
             have hc5 := HW.out.at_ (B := 0) HQ5.out.l1.bel hlt
             rw [← HY.out] at hc5
             have HP2 := push1 HQ5.out.s2 y (by rw [HY.out]; exact HFK.out) (by omega)
             unfold P1Post at HP2
             have HP2 := Lib.hid HP2
             clear hS hF)
          | (go_at_call 17
             with_reducible refine HP2.out.mono ?_
             rintro e w6 ⟨rfl, hS, hF⟩
             have HQ6 := Lib.hid (HQ5.out.push_t hS hF (by rw [HY.out]; exact HFK.out) HY.out)
             clear hS hF))
        exact ⟨⟨k + 1, _, by omega, by go_num, HQ6⟩, by simp [intOf]; omega⟩
      · obtain rfl : n = k := by omega
        obtain ⟨K, e1, hK⟩ : ∃ K : Nat, (X : Int) % ((n : Int) + 1) = (K : Int) ∧ K ≤ n := ⟨X % (n + 1), by push_cast; rfl, by have := Nat.mod_lt X (show 0 < n + 1 by omega); omega⟩
        obtain ⟨J, e2, hJ⟩ : ∃ J : Nat, (Y : Int) % ((n : Int) - (K : Int) + 1) = (J : Int) ∧ J + K ≤ n := by
          refine ⟨Y % (n - K + 1), ?_, by have := Nat.mod_lt Y (show 0 < n - K + 1 by omega); omega⟩
          rw [show (n : Int) - (K : Int) + 1 = ((n - K + 1 : Nat) : Int) by omega]
          push_cast
          rfl
        have HU := Unwind_ok HQ.out.s1 K J (by omega)
        unfold UnPost at HU
        have HU := Lib.hid HU
        obtain ⟨L, hL⟩ : ∃ L, L + K = n := ⟨n - K, by omega⟩
        obtain ⟨M, hM⟩ : ∃ M, J + M = L := ⟨L - J, by omega⟩
        have e3 : (L : Int) - (J : Int) = (M : Int) := by omega
        go_wp2_with (first
          | (go_at_call 22
             with_reducible refine HU.out.mono ?_
             rintro e w5 ⟨rfl, hS, hF⟩
             have HQ5 := Lib.hid (HQ.out.unw_s hJ hS hF)
             have HT := Take_ok (h := L) K (HQ5.out.s2.cong rfl hL.symm)
             unfold TkPost at HT
             have HT := Lib.hid HT
             clear hS hF)
          | (go_at_call 19
             with_reducible refine HT.out.mono ?_
             rintro e w6 ⟨p, rfl, hp, hP, hS, hF⟩
             have HQ6 := Lib.hid (HQ5.out.cut_t hS hF (by omega))
             have HP6 := Lib.hid (con_row' HQ5.out.c2 (by omega) hP)
             have HH := Lib.hid (SkHeight_ok hS.blk)
             have HT2 := Take_ok (h := J) M (hS.cong rfl hM.symm)
             unfold TkPost at HT2
             have HT2 := Lib.hid HT2
             clear hp hP hS hF)
          | (go_at_call 23
             with_reducible refine HH.out.mono ?_
             rintro e w' ⟨rfl, rfl⟩)
          | (go_at_call 19
             with_reducible refine HT2.out.mono ?_
             rintro e w7 ⟨q, rfl, hq, hR, hS, hF⟩
             have HQ7 := Lib.hid (HQ6.out.cut_t hS hF (by omega))
             have hP7 := HP6.out.fr hF (HP6.out.ne_ HQ6.out.s2.blk (by decide))
             have HPu := Push_ok hS (some ⟨p, 0, none⟩) K K _ (wrd_of_row hP7 (fun i hi => HW.out.2.2.1 _ (by omega)) (by unfold maxLen; omega)) (fun _ b off e => by injection e with e; injection e with e; rw [← e]; exact hP7.ne_ hS.are.byt (by decide)) (by omega)
             unfold PsPost at HPu
             have HPu := Lib.hid HPu
             clear hq hR hS hF hP7)
          | (go_at_call 17
             with_reducible refine HPu.out.mono ?_
             rintro e w8 ⟨rfl, hS, hF⟩
             have HQ8 := Lib.hid (HQ7.out.row_t (G' := fun j => if j < J then f j else f (L + (j - J))) hS hF (fun i hi => HW.out.2.2.1 _ (by omega)) (fun i hi => by rw [if_neg (by omega)]; congr 1; omega) (fun i hi => by rw [if_pos hi]))
             have HH1 := Lib.hid (SkHeight_ok HQ8.out.s1.blk)
             have HH2 := Lib.hid (SkHeight_ok HQ8.out.s2.blk)
             clear hS hF)
          | (go_at_call 23
             first
               | (with_reducible refine HH1.out.mono ?_)
               | (with_reducible refine HH2.out.mono ?_)
             rintro e w' ⟨rfl, rfl⟩))
        obtain ⟨D, hD⟩ : ∃ D, D = (d.cpy (0 + 8 * J) (List.take (8 * K) (List.drop (0 + 8 * (n - K)) d.mem))).pus (512 + 8 * J) (fun i => f (L + i)) K := ⟨_, rfl⟩
        obtain ⟨F, hF⟩ : ∃ F : Nat → Nat, F = fun j => if j < J then f j else f (L + (j - J)) := ⟨_, rfl⟩
        have HQ9 : Hid (Duo w w8 a bb rm gm s t D (J + K) (J + K) F F) := Lib.hid (by
          have := HQ8.out
          rw [show n - K = L by omega] at this
          rw [show n - K = L by omega] at hD
          rw [← hD, ← hF] at this
          exact this)
        clear HU HT HT2 HPu HQ8 HQ7 HQ6 HQ5 hD hF
        go_loopw [22, 23, 24, 25, 26] (fun v22 v23 v24 v25 v26 wr => ∃ k : Nat, k ≤ J + K ∧ v22 = .int .i64 k ∧ ∃ q, Hid (wr = w8.drewN q)) (fun v22 _ _ _ _ _ => J + K - (intOf v22).toNat)
        case atStart => exact ⟨0, Nat.zero_le _, rfl, 0, Lib.hid rfl⟩
        case round =>
          obtain ⟨j, hj, rfl, qq, hwr⟩ := hrel
          obtain rfl := hwr.out
          clear hwr
          by_cases hjl : j < J + K
          · have hg1 : ∀ q, _ := fun q => SkGet_ok (HQ9.out.s1.drewN q) j hjl
            have hg2 : ∀ q, _ := fun q => SkGet_ok (HQ9.out.s2.drewN q) j hjl
            rw [HQ9.out.c1 j hjl] at hg1
            rw [HQ9.out.c2 j hjl] at hg2
            have HG1 := Lib.hid (hg1 qq)
            have HG2 := Lib.hid hg2
            obtain ⟨y, ey⟩ : ∃ y, y = F j := ⟨_, rfl⟩
            rw [← ey] at HG1 HG2
            clear hg1 hg2 ey
            go_wp2_with (first
              | (go_at_call 20
                 with_reducible refine HG1.out.mono ?_
                 rintro e w' ⟨rfl, q1, rfl⟩
                 have HG3 := Lib.hid (HG2.out (qq + q1)))
              | (go_at_call 20
                 refine HG3.out.mono ?_
                 rintro e w' ⟨rfl, q2, rfl⟩))
            exact ⟨⟨j + 1, by omega, by go_num, _, Lib.hid rfl⟩, by simp [intOf]; omega⟩
          · obtain rfl : j = J + K := by omega
            go_wp2
            go_ret
            exact ⟨rfl, (HQ9.out.l1.drewN _).bel⟩
  · go_enter Try.func7, Try.ntmps7
    go_wp2_with (go_at_call 12; refine HA.out.mono ?_; rintro e w1 ⟨rfl, hb⟩; have HB := Lib.hid hb; clear hb)
    go_ret
    exact ⟨rfl, HB.out⟩
end Go.Proofs.Ythfdblpodnodcaa
