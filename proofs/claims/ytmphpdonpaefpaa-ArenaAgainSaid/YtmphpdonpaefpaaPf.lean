/-
  Called with any bytes, grommetlaw04.ArenaAgain returns true; no condition.
-/
import Derived.Test.YtmphpdonpaefpaaAg
import Derived.WalkKit
import Derived.ProofKit
import Derived.OpenShut
import Derived.ShutString
import Derived.ChangeOld
import Derived.Below
namespace Go.Proofs.Ytmphpdonpaefpaa
open Go.ChangeShapes Go.WideShapes Go.ChangeAt Go.RowKit
open Go.ChangeMaps (open_string shut_string)
set_option linter.unusedVariables false


theorem own_fr {w w' : World} {S : Nat → Prop} {B n : Nat} {v : Value} {xs : List Value} (h : w.ownsRow B 3 1 v n xs) (hf : Fr S w w') (hS : ∀ g cur, Blk w g 3 cur → v.ownBlock = some g → ¬ S g) : w'.ownsRow B 3 1 v n xs := by
  refine ⟨h.1, ?_⟩
  rcases h.2 with h0 | ⟨g, cap, cur, e, h1, hg, h2⟩
  · exact .inl h0
  · subst e
    exact .inr ⟨g, cap, cur, rfl, h1, hf.keep hg (hS g cur hg rfl), h2⟩
theorem Are.row_ne {w : World} {a bb rm gm g : Nat} {d : Ad} {cur : Array Value} (h : Are w a bb rm gm d) (hg : Blk w g 3 cur) : ¬ arb a bb rm gm g := by
  obtain ⟨n, _, hi⟩ := h.rooms
  obtain ⟨n', _, hi'⟩ := h.given
  rintro (rfl | rfl | rfl | rfl)
  · exact hg.ne_ h.blk (by decide) rfl
  · exact hg.ne_ h.byt (by decide) rfl
  · exact hi.ne_ hg rfl
  · exact hi'.ne_ hg rfl
theorem ARel.fr0 {w w1 w2 : World} {S : Nat → Prop} {a bb rm gm : Nat} {d : Ad} (h : ARel w a bb rm gm d w1) (hG : ∀ c, d.G c = []) (hf : Fr S w1 w2) (hS : ∀ k, arb a bb rm gm k → ¬ S k) (hB : ∀ k, S k → w.heap.size ≤ k) : ARel w a bb rm gm d w2 := by
  refine ⟨h.are.fr hf (fun k hk => ?_), hf.below h.bel h.bel.size hB, h.ha, h.hb, h.hr, h.hg, h.own⟩
  rcases hk with q | q | q | q | ⟨c, hc, _⟩
  · exact hS k (.inl q)
  · exact hS k (.inr (.inl q))
  · exact hS k (.inr (.inr (.inl q)))
  · exact hS k (.inr (.inr (.inr q)))
  · exact absurd (hG c) hc
def PR (cs : Nat → Nat) (k : Nat) : List Value := (List.range k).map fun j => I64 (lv cs j)
theorem PR_succ (cs : Nat → Nat) (k : Nat) : PR cs (k + 1) = PR cs k ++ [Value.int .i64 ((lv cs k : Nat) : Int)] := by simp [PR, List.range_succ, I64]
theorem pls_of_own {w : World} {B n : Nat} {v : Value} {cs : Nat → Nat} (h : w.ownsRow B 3 1 v n (PR cs n)) : Pls w w.heap.size v n (lv cs) := by
  rcases h.2 with ⟨rfl, rfl⟩ | ⟨g, cap, cur, rfl, h1, hg, h2, h3, h4, h5⟩
  · exact ⟨none, 0, rfl, Nat.le_refl _, Nat.zero_le _, fun h => by omega⟩
  · refine ⟨_, cap, rfl, h2, h3, fun h0 => ⟨g, rfl, Blk.lt hg, Blk.lt hg, fun j hj => ?_⟩⟩
    rw [Blk.cell hg, ← Array.getElem?_toList]
    have h6 : cur.toList[j]? = (cur.toList.take (n * 1))[j]? := by rw [List.getElem?_take_of_lt (by omega)]
    rw [h6, h5]
    simp [PR, hj, I64]
set_option maxHeartbeats 4000000 in
set_option maxRecDepth 100000 in
theorem arenaAgain_walk (a0 : Option Addr) (len0 cap0 : Nat) (z0 : List Int) (a1 : Option Addr) (len1 cap1 : Nat) (z1 : List Int) (w : World) (w0 : IsRow .u8 w a0 len0 cap0 z0) (w1 : IsRow .u8 w a1 len1 cap1 z1) :
    Calls Try.prog 11 #[.slice a0 len0 cap0, .slice a1 len1 cap1] w fun e w' => e = .returned (.bool true) ∧ Below w.heap.size w w' := by
  obtain ⟨l0, hb0⟩ := byt_of_row w0
  obtain ⟨l1, hb1⟩ := byt_of_row w1
  obtain ⟨i0, hii, hz0, hz1, hz2⟩ := info_parts info3
  have hcap0 : cap0 ≤ 9223372036854775807 := hb0.2.2.2.1
  have hlc0 : len0 ≤ cap0 := hb0.2.2.1
  have hcap1 : cap1 ≤ 9223372036854775807 := hb1.2.2.2.1
  have hlc1 : len1 ≤ cap1 := hb1.2.2.1
  have HB0 := Lib.hid hb0
  have HB1 := Lib.hid hb1
  clear w0 w1 hb0 hb1
  by_cases hbig : 30 < len0 ∨ (len0 ≤ 30 ∧ 30 < len1)
  · rcases hbig with h | ⟨h, h'⟩
    all_goals
      go_enter Try.func11, Try.ntmps11
      go_wp2_with (first
        | (go_at_call 25; refine (awake4_any _).mono ?_; rintro e w1 ⟨rfl, hb1⟩; have HB1 := Lib.hid hb1; clear hb1))
      go_ret
      exact ⟨rfl, HB1.out⟩
  · have hl0 : len0 ≤ 30 := by omega
    have hl1 : len1 ≤ 30 := by omega
    obtain ⟨cs, hcs⟩ : ∃ cs : Nat → Nat, cs = fun j => cl ((l0.getD j 0 : Nat) : Int) := ⟨_, rfl⟩
    have hzl : ∀ j, l0.getD j 0 < 256 := fun j => by
      rw [List.getD_eq_getElem?_getD]
      rcases Nat.lt_or_ge j l0.length with h | h
      · rw [List.getElem?_eq_getElem h]; exact HB0.out.2.1 _ (List.getElem_mem _)
      · rw [List.getElem?_eq_none h]; decide
    have HZ := Lib.hid hzl
    have H16 : Hid (∀ j, 16 ≤ cs j) := Lib.hid (fun j => by rw [hcs]; exact cl_lo _)
    have HLE : Hid (∀ j, cs j ≤ 256) := Lib.hid (fun j => by rw [hcs]; exact cl_small ⟨_, hzl j⟩)
    have HCS := Lib.hid hcs
    clear hcs hzl hbig
    go_enter Try.func11, Try.ntmps11
    go_wp2_with fail
    refine (awake4_any _).mono ?_
    rintro e w1 ⟨rfl, hb1⟩
    have HW1 := Lib.hid hb1
    clear hb1
    go_wp2_with fail
    refine (ANew_ok 8192 _ (by omega)).mono ?_
    rintro e w2 ⟨a, bb, rm, gm, rfl, h2, b2, ha, hb, hr, hg⟩
    have HR0 : Hid (ARel w a bb rm gm (nuA 8192) w2) := Lib.hid (ARel.new HW1.out h2 b2 ha hb hr hg)
    clear h2 b2 ha hb hr hg
    go_wp2_with fail
    go_loopw [7, 8] (fun u7 i wr => ∃ (k : Nat) (v7 : Value), k ≤ len0 ∧ v7 = u7 ∧ i = .int .i64 k ∧ ∃ d, Hid (ARel w a bb rm gm d wr) ∧ Hid (d.sz = 8192 ∧ TS cs k d) ∧ Hid (wr.ownsRow w.heap.size 3 1 v7 k (PR cs k))) (fun _ i _ => len0 - (intOf i).toNat)
    case atStart => exact ⟨0, _, Nat.zero_le _, rfl, rfl, nuA 8192, HR0, Lib.hid ⟨rfl, fun j hj => absurd hj (Nat.not_lt_zero _), rfl, rfl, fun _ => rfl, rfl⟩, Lib.hid (World.ownsRow_nil w2 _ 3 1)⟩
    case round =>
      obtain ⟨k, v7, hk, rfl, rfl, d, HR, HT, HO⟩ := hrel
      by_cases hlt : k < len0
      · obtain ⟨b, off, rfl, hbl, hcell⟩ := HB0.out.2.2.2.2 (by omega)
        have d0 : wr.cell? ⟨b, off + k, none⟩ = some (.int .u8 ((l0.getD k 0 : Nat) : Int)) := (HR.out.bel.cell (p := ⟨b, off + k, none⟩) hbl).trans (hcell k hlt)
        have hz := HZ.out k
        have HCK : Hid (cl ((l0.getD k 0 : Nat) : Int) = cs k) := Lib.hid (by rw [HCS.out])
        have HSk : Hid (lv cs k + cs k ≤ 7680) := Lib.hid (by
          have h1 := lv_le cs 256 k (fun j _ => HLE.out j)
          have h2 := HLE.out k
          omega)
        clear hcell hbl
        generalize l0.getD k 0 = z at *
        have hTo : d.ops < 1000000 := by rw [HT.out.2.ops]; omega
        go_wp2_with fail
        refine (Take_cut a bb rm gm d (z : Int) wr HR.out.are (by omega) (by omega) (HT.out.2.gn _) (by rw [HCK.out, HT.out.2.height, HT.out.1]; have := HSk.out; omega) hTo).mono ?_
        rintro e w3 ⟨rfl, h3, f3⟩
        have HR3 := Lib.hid (HR.out.takeC h3 f3)
        have HT3 : Hid (((d.cut (cl (z : Int))).take d.height (cl (z : Int))).sz = 8192 ∧ TS cs (k + 1) ((d.cut (cl (z : Int))).take d.height (cl (z : Int)))) := Lib.hid ⟨HT.out.1, HT.out.2.next H16.out HCK.out⟩
        have HO3 : Hid (w3.ownsRow w.heap.size 3 1 v7 k (PR cs k)) := Lib.hid (own_fr HO.out f3 (fun g cur hg _ => HR.out.are.row_ne hg))
        have hHk : d.height = lv cs k := HT.out.2.height
        have HHk := Lib.hid hHk
        have HB3 : Hid (w.heap.size ≤ w3.heap.size) := Lib.hid HR3.out.bel.size
        clear h3 f3 hHk
        rw [HHk.out]
        generalize ((d.cut (cl (z : Int))).take d.height (cl (z : Int))) = d3 at *
        go_wp2_with (first
          | (at_builtin
             refine wpList_append_own _ rfl (.tmp 53) (.tmp 55) 61 rfl w.heap.size 3 i0 (.int .i64 0) 1 8 Try.underlying61 hii hz0 hz1 hz2 rfl (by decide) v7 k (PR cs k) rfl (HO3.out.alloc _) ⟨w3.heap.size, 0, none⟩ 1 1 [.int .i64 ((lv cs k : Nat) : Int)] rfl rfl (Blk.src (Blk.new w3 3 _)) (by simp [Value.oneCell']) (by unfold maxLen; omega) (by omega) (by have := HB3.out; simp; omega) ?_
             intro v' w4 hown4 hgrow4 _
             have HR4 : Hid (ARel w a bb rm gm d3 w4) := Lib.hid (by
               have f4 : Fr (fun q => v7.ownBlock = some q) w3 w4 := ((Fr.refl _ w3).alloc _).trans (Fr.grownV hgrow4)
               refine HR3.out.fr0 HT3.out.2.gn f4 (fun q hq hq2 => ?_) (fun q hq => ?_)
               · rcases HO3.out.2 with ⟨e, _⟩ | ⟨g, cp, cur, e, _, hg, _⟩
                 · rw [e] at hq2; cases hq2
                 · rw [e] at hq2
                   injection hq2 with hq2
                   subst hq2
                   exact HR3.out.are.row_ne hg hq
               · exact (HO3.out.lt q hq).1)
             have HO4 : Hid (w4.ownsRow w.heap.size 3 1 v' (k + 1) (PR cs (k + 1))) := Lib.hid (by rw [PR_succ]; exact hown4)
             clear hown4 hgrow4))
        go_roundw
        case rel => exact ⟨k + 1, _, by omega, rfl, by go_num, d3, HR4, HT3, HO4⟩
        case measure => simp [intOf]; omega
      · obtain rfl : k = len0 := by omega
        obtain ⟨S, hS⟩ : ∃ S, S = lv cs k := ⟨_, rfl⟩
        have HS := Lib.hid hS
        have HH : Hid (Calls Try.prog 31 #[.pointer (some ⟨a, 0, none⟩)] wr fun e w' => e = .returned (.int .i64 S) ∧ wr = w') := Lib.hid (by
          have := Height_any HR.out.are
          rw [HT.out.2.height, ← hS] at this
          exact this)
        have HL : Hid (Calls Try.prog 30 #[.pointer (some ⟨a, 0, none⟩)] wr fun e w' => e = .returned (.int .i64 S) ∧ wr = w') := Lib.hid (by
          have := Live_any HR.out.are
          rw [HT.out.2.live, ← hS] at this
          exact this)
        obtain ⟨A, cap, hv7, hp1, hp2, hp3⟩ := pls_of_own HO.out
        have HP : Hid (Pls wr wr.heap.size (.slice A k cap) k (lv cs)) := Lib.hid ⟨A, cap, rfl, hp1, hp2, hp3⟩
        have HNE : Hid (0 < k → ∀ A' cap', Value.slice A k cap = .slice A' k cap' → ∀ g, A' = some ⟨g, 0, none⟩ → g ≠ a ∧ g ≠ rm ∧ g ≠ gm) := Lib.hid (by
          rintro h0 A' cap' e' g rfl
          rcases HO.out.2 with ⟨e, _⟩ | ⟨g', cp, cur, e, _, hg, _⟩
          · rw [hv7, e'] at e; cases e
          · rw [hv7, e'] at e
            injection e with e
            injection e with e
            injection e with e
            subst e
            have := HR.out.are.row_ne hg
            exact ⟨fun q => this (.inl q), fun q => this (.inr (.inr (.inl q))), fun q => this (.inr (.inr (.inr q)))⟩)
        subst hv7
        have hcap : cap ≤ 9223372036854775807 := hp2
        have hkc : k ≤ cap := hp1
        have HG : Hid (GS cs k d ∧ d.height = S ∧ d.ops ≤ 30) := Lib.hid ⟨HT.out.2.gs, by rw [HT.out.2.height, hS], by rw [HT.out.2.ops]; omega⟩
        have HV : Hid (VB wr.heap.size d) := Lib.hid (fun c hc => absurd (HT.out.2.gn c) hc)
        clear hp1 hp2 hp3 hS
        obtain ⟨B, hB⟩ : ∃ B, B = wr.heap.size := ⟨_, rfl⟩
        rw [← hB] at HP HV
        have HBB : Hid (B ≤ wr.heap.size) := Lib.hid (Nat.le_of_eq hB)
        clear hB HT HO HR0 HW1
        have hS30 : ∀ q, q < k → lv cs q ≤ 7680 := fun q hq => by
          have := lv_le cs 256 q (fun j _ => HLE.out j)
          omega
        have HS30 := Lib.hid hS30
        clear hS30
        go_wp2_with (first
          | (go_at_call 31; refine HH.out.mono ?_; rintro e w' ⟨rfl, rfl⟩)
          | (go_at_call 30; refine HL.out.mono ?_; rintro e w' ⟨rfl, rfl⟩))
        clear HH HL
        go_loopw [13] (fun i wr => ∃ j : Nat, j ≤ len1 ∧ i = .int .i64 j ∧ ∃ d, Hid (ARel w a bb rm gm d wr) ∧ Hid (GS cs k d ∧ d.height = S ∧ d.ops ≤ 30 + j) ∧ Hid (Pls wr B (.slice A k cap) k (lv cs)) ∧ Hid (VB B d) ∧ Hid (B ≤ wr.heap.size)) (fun i _ => len1 - (intOf i).toNat)
        case atStart => exact ⟨0, Nat.zero_le _, rfl, d, HR, HG, HP, HV, HBB⟩
        case round =>
          obtain ⟨j, hj, rfl, d2, HR, HG, HP, HV, HBB⟩ := hrel
          by_cases hlt : j < len1 ∧ 0 < k
          · obtain ⟨hlt, hk0⟩ := hlt
            obtain ⟨b, off, rfl, hbl, hcell⟩ := HB1.out.2.2.2.2 (by omega)
            have d0 : wr.cell? ⟨b, off + j, none⟩ = some (.int .u8 ((l1.getD j 0 : Nat) : Int)) := (HR.out.bel.cell (p := ⟨b, off + j, none⟩) hbl).trans (hcell j hlt)
            have hz : l1.getD j 0 < 256 := HB1.out.2.1 _ (by rw [List.getD_eq_getElem?_getD, List.getElem?_eq_getElem (by have := HB1.out.1; omega)]; exact List.getElem_mem _)
            clear hcell hbl
            generalize l1.getD j 0 = z at *
            obtain ⟨A', cap', e', hp1, hp2, hp⟩ := HP.out
            obtain ⟨g, hgA, hgB, hgw, hgc⟩ := hp hk0
            injection e' with e1 e2 e3
            subst e3
            subst e1
            subst hgA
            have hq : z % k < k := Nat.mod_lt _ hk0
            have d1 : wr.cell? ⟨g, z % k, none⟩ = some (.int .i64 ((lv cs (z % k) : Nat) : Int)) := hgc _ hq
            clear hp hgc hp1 hp2
            go_wp2_with fail
            have hq30 := HS30.out _ hq
            clear d1
            generalize z % k = q at *
            rcases HG.out.1.at_ q hq with hR | hR
            · have HRR := Lib.hid hR
              refine (Give_ok a bb rm gm d2 (lv cs q) (cs q) wr HR.out.are hR (by have := HG.out.2.2; omega)).mono ?_
              rintro e w4 ⟨v, rfl, h4, f4, hv⟩
              have HR4 := Lib.hid (HR.out.give h4 f4 hv)
              have HG4 : Hid (GS cs k (d2.give (lv cs q) (cs q) v) ∧ (d2.give (lv cs q) (cs q) v).height = S ∧ (d2.give (lv cs q) (cs q) v).ops ≤ 30 + (j + 1)) := Lib.hid ⟨HG.out.1.give H16.out hq HRR.out, HG.out.2.1, by show d2.ops + 1 ≤ _; have := HG.out.2.2; omega⟩
              have HP4 := Lib.hid (HP.out.give (p := 0) HR.out.are HV.out f4 HNE.out)
              have HV4 := Lib.hid (HV.out.give (p := lv cs q) HR.out.are HBB.out hv)
              have HB4 : Hid (B ≤ w4.heap.size) := Lib.hid (Nat.le_trans HBB.out f4.size)
              clear h4 f4 hv hR
              go_wp2_with fail
              go_roundw
              case rel => exact ⟨j + 1, by omega, by go_num, _, HR4, HG4, HP4, HV4, HB4⟩
              case measure => simp [intOf]; omega
            · refine (Give_no a bb rm gm d2 ((lv cs q : Nat) : Int) wr HR.out.are (WalkArith.wf_i64 (by omega)) (by rw [Ad.fr_nat, hR]; rfl)).mono ?_
              rintro e w4 ⟨rfl, rfl⟩
              have HG4 : Hid (GS cs k d2 ∧ d2.height = S ∧ d2.ops ≤ 30 + (j + 1)) := Lib.hid ⟨HG.out.1, HG.out.2.1, by have := HG.out.2.2; omega⟩
              clear hR
              go_wp2_with fail
              go_roundw
              case rel => exact ⟨j + 1, by omega, by go_num, _, HR, HG4, HP, HV, HBB⟩
              case measure => simp [intOf]; omega
          · have hex : len1 ≤ j ∨ (j < len1 ∧ k ≤ 0) := by omega
            have HG5 : Hid (GS cs k d2 ∧ d2.height = S ∧ d2.ops ≤ 60) := Lib.hid ⟨HG.out.1, HG.out.2.1, by have := HG.out.2.2; omega⟩
            clear hlt
            rcases hex with h | ⟨h, h'⟩
            all_goals
              go_wp2_with fail
              go_loopw [14] (fun i wr => ∃ j : Nat, j ≤ k ∧ i = .int .i64 j ∧ ∃ d, Hid (ARel w a bb rm gm d wr) ∧ Hid (GS cs k d ∧ d.height = S ∧ d.ops ≤ 60 + j) ∧ Hid (Pls wr B (.slice A k cap) k (lv cs)) ∧ Hid (VB B d) ∧ Hid (B ≤ wr.heap.size) ∧ Hid (∀ i, i < j → d.R (lv cs i) = none)) (fun i _ => k - (intOf i).toNat)
              case atStart => exact ⟨0, Nat.zero_le _, rfl, d2, HR, HG5, HP, HV, HBB, Lib.hid (fun i hi => absurd hi (Nat.not_lt_zero _))⟩
              case round =>
                obtain ⟨j, hj, rfl, d2, HR, HG, HP, HV, HBB, HN⟩ := hrel
                by_cases hlt : j < k
                · (try (exfalso; omega))
                  all_goals
                    obtain ⟨A', cap', e', hp1, hp2, hp⟩ := HP.out
                    obtain ⟨g, hgA, hgB, hgw, hgc⟩ := hp (by omega)
                    injection e' with e1 e2 e3
                    subst e3
                    subst e1
                    subst hgA
                    have d1 : wr.cell? ⟨g, j, none⟩ = some (.int .i64 ((lv cs j : Nat) : Int)) := hgc _ hlt
                    clear hp hgc hp1 hp2
                    go_wp2_with fail
                    have hq30 := HS30.out _ hlt
                    clear d1
                    obtain ⟨q, hqj⟩ : ∃ q, q = j := ⟨_, rfl⟩
                    have hq : q < k := by omega
                    have HQ := Lib.hid hqj
                    rw [← hqj] at hq30
                    rw [show lv cs j = lv cs q from by rw [hqj]]
                    clear hqj
                    rcases HG.out.1.at_ q hq with hR | hR
                    · have HRR := Lib.hid hR
                      refine (Give_ok a bb rm gm d2 (lv cs q) (cs q) wr HR.out.are hR (by have := HG.out.2.2; omega)).mono ?_
                      rintro e w4 ⟨v, rfl, h4, f4, hv⟩
                      have HR4 := Lib.hid (HR.out.give h4 f4 hv)
                      have HG4 : Hid (GS cs k (d2.give (lv cs q) (cs q) v) ∧ (d2.give (lv cs q) (cs q) v).height = S ∧ (d2.give (lv cs q) (cs q) v).ops ≤ 60 + (j + 1)) := Lib.hid ⟨HG.out.1.give H16.out hq HRR.out, HG.out.2.1, by show d2.ops + 1 ≤ _; have := HG.out.2.2; omega⟩
                      have HP4 := Lib.hid (HP.out.give (p := 0) HR.out.are HV.out f4 HNE.out)
                      have HV4 := Lib.hid (HV.out.give (p := lv cs q) HR.out.are HBB.out hv)
                      have HB4 : Hid (B ≤ w4.heap.size) := Lib.hid (Nat.le_trans HBB.out f4.size)
                      have HN4 : Hid (∀ i, i < j + 1 → (d2.give (lv cs q) (cs q) v).R (lv cs i) = none) := Lib.hid (fun i hi => by
                        by_cases e : i = q
                        · subst e; simp [Ad.give]
                        · simp only [Ad.give, if_neg (lv_inj H16.out e)]; exact HN.out i (by have := HQ.out; omega))
                      clear h4 f4 hv hR
                      go_wp2_with fail
                      go_roundw
                      case rel => exact ⟨j + 1, by omega, by go_num, _, HR4, HG4, HP4, HV4, HB4, HN4⟩
                      case measure => simp [intOf]; omega
                    · refine (Give_no a bb rm gm d2 ((lv cs q : Nat) : Int) wr HR.out.are (WalkArith.wf_i64 (by omega)) (by rw [Ad.fr_nat, hR]; rfl)).mono ?_
                      rintro e w4 ⟨rfl, rfl⟩
                      have HG4 : Hid (GS cs k d2 ∧ d2.height = S ∧ d2.ops ≤ 60 + (j + 1)) := Lib.hid ⟨HG.out.1, HG.out.2.1, by have := HG.out.2.2; omega⟩
                      have HN4 : Hid (∀ i, i < j + 1 → d2.R (lv cs i) = none) := Lib.hid (fun i hi => by
                        by_cases e : i = q
                        · subst e; exact hR
                        · exact HN.out i (by have := HQ.out; omega))
                      clear hR
                      go_wp2_with fail
                      go_roundw
                      case rel => exact ⟨j + 1, by omega, by go_num, _, HR, HG4, HP, HV, HBB, HN4⟩
                      case measure => simp [intOf]; omega
                · obtain rfl : j = k := by omega
                  have HU : Hid (US cs j 0 d2 ∧ d2.height = S ∧ d2.ops ≤ 90) := Lib.hid ⟨HG.out.1.us HN.out, HG.out.2.1, by have := HG.out.2.2; omega⟩
                  have HL : Hid (Calls Try.prog 30 #[.pointer (some ⟨a, 0, none⟩)] wr fun e w' => e = .returned (.int .i64 0) ∧ wr = w') := Lib.hid (by
                    have := Live_any HR.out.are
                    rw [HU.out.1.live] at this
                    exact this)
                  have hn0 : ((0 : Int) != 0) = false := by decide
                  clear HG HP HV HBB HN
                  go_wp2_with (first | (go_at_call 30; refine HL.out.mono ?_; rintro e w' ⟨rfl, rfl⟩))
                  clear HL
                  go_loopw [15] (fun i wr => ∃ q : Nat, q ≤ j ∧ i = .int .i64 q ∧ ∃ d, Hid (ARel w a bb rm gm d wr) ∧ Hid (US cs j q d ∧ d.height = S ∧ d.ops ≤ 90 + q)) (fun i _ => j - (intOf i).toNat)
                  case atStart => exact ⟨0, Nat.zero_le _, rfl, d2, HR, HU⟩
                  case round =>
                    obtain ⟨q, hq, rfl, d3, HR, HU⟩ := hrel
                    by_cases hlt : q < j
                    · obtain ⟨b, off, rfl, hbl, hcell⟩ := HB0.out.2.2.2.2 (by omega)
                      have d0 : wr.cell? ⟨b, off + q, none⟩ = some (.int .u8 ((l0.getD q 0 : Nat) : Int)) := (HR.out.bel.cell (p := ⟨b, off + q, none⟩) hbl).trans (hcell q hlt)
                      have hz := HZ.out q
                      have HCK : Hid (cl ((l0.getD q 0 : Nat) : Int) = cs q) := Lib.hid (by rw [HCS.out])
                      clear hcell hbl
                      generalize l0.getD q 0 = z at *
                      obtain ⟨xs, p, hG⟩ := HU.out.1.some hlt
                      have HGG := Lib.hid hG
                      clear hG
                      go_wp2_with fail
                      refine (Take_given a bb rm gm d3 (z : Int) xs p wr HR.out.are (by omega) (by omega) (by rw [HCK.out]; exact HGG.out) (by have := HU.out.2.2; omega)).mono ?_
                      rintro e w4 ⟨v, rfl, h4, f4, hv⟩
                      have HR4 := Lib.hid (HR.out.takeG (by rw [HCK.out]; exact HGG.out) h4 f4 hv)
                      have HU4 : Hid (US cs j (q + 1) ((d3.pop (cl (z : Int)) xs v).take p (cl (z : Int))) ∧ ((d3.pop (cl (z : Int)) xs v).take p (cl (z : Int))).height = S ∧ ((d3.pop (cl (z : Int)) xs v).take p (cl (z : Int))).ops ≤ 90 + (q + 1)) := Lib.hid ⟨by rw [HCK.out]; exact HU.out.1.next HGG.out, HU.out.2.1, by show d3.ops + 1 ≤ _; have := HU.out.2.2; omega⟩
                      clear h4 f4 hv
                      go_wp2_with fail
                      go_roundw
                      case rel => exact ⟨q + 1, by omega, by go_num, _, HR4, HU4⟩
                      case measure => simp [intOf]; omega
                    · obtain rfl : q = j := by omega
                      have HH : Hid (Calls Try.prog 31 #[.pointer (some ⟨a, 0, none⟩)] wr fun e w' => e = .returned (.int .i64 S) ∧ wr = w') := Lib.hid (by
                        have := Height_any HR.out.are
                        rw [HU.out.2.1] at this
                        exact this)
                      have HL : Hid (Calls Try.prog 30 #[.pointer (some ⟨a, 0, none⟩)] wr fun e w' => e = .returned (.int .i64 S) ∧ wr = w') := Lib.hid (by
                        have := Live_any HR.out.are
                        rw [HU.out.1.live, ← HS.out] at this
                        exact this)
                      have hss : ((S : Int) == (S : Int)) = true := by simp
                      go_wp2_with (first
                        | (go_at_call 31; refine HH.out.mono ?_; rintro e w' ⟨rfl, rfl⟩)
                        | (go_at_call 30; refine HL.out.mono ?_; rintro e w' ⟨rfl, rfl⟩))
                      go_ret
                      exact ⟨rfl, HR.out.bel⟩

set_option maxRecDepth 100000 in
theorem arenaAgain_lifted (os : Os) (started : os.Started) (H : Type) (enc : TypeId × Value → H) :
    ReturnsInHanded {} Try.checked os 11 .any (Rows.arenaAgainSpec.pre6 enc Try.prog Try.f11 Rows.arenaAgainRow.domain false) (Rows.arenaAgainSpec.post enc Try.prog Try.f11 false true false false) := by
  refine returnsInHanded_of_change (C := Try.checked) Try.own started (by kernel_rfl) Try.func11
    (ChangeSpec.witness6 (enc := enc) (C := Try.checked) false ⟨#[], #[.slice none 0 0, .slice none 0 0], []⟩ 8 (by kernel_rfl) (by kernel_rfl) (by kernel_rfl) (by kernel_rfl)) ?_
  intro W base args ds gs before hval0 hW hcnd _
  have hval : ∀ (j : Nat) t v, Try.f11.params[j]? = some t → args[j]? = some v → Value.okWide Try.prog W .any base t v := hval0
  have hW' := hW
  obtain ⟨p, q, hA0, hV, rfl, hfz, hnd⟩ := hW
  have hA : DataW.TrodAll enc Try.prog W 0 (fun _ => true) true Try.f11.params.toList args.toList ds p := hA0
  rw [Try.params11] at hA hval
  obtain ⟨v0, vs0, d0, ds0, p0, q0, hargs, rfl, rfl, h0, r0⟩ := trodAll_cons hA
  obtain ⟨v1, vs1, d1, ds1, p1, q1, rfl, rfl, rfl, h1, r1⟩ := trodAll_cons r0
  obtain ⟨rfl, rfl, rfl⟩ := trodAll_nil r1
  obtain rfl : args = #[v0, v1] := by cases args; simp_all
  obtain ⟨rfl, rfl⟩ := trodVars_none hV
  obtain ⟨a0, len0, cap0, rfl⟩ := okWide_slice Try.underlying37 (hval 0 37 v0 rfl rfl)
  have k0 := h0
  have lt0 : ∀ x ∈ p0, x.block < W.heap.size := by obtain ⟨m, hm⟩ := k0; exact DataW.trod_lt m _ _ _ hm
  obtain ⟨z0, w0⟩ : ∃ zs, IsRow .u8 W a0 len0 cap0 zs := by
    obtain ⟨fuel, hf⟩ := h0
    rcases open_ints Try.underlying37 Try.underlying5 (by kernel_rfl) hf with ⟨hcs, _⟩ | ⟨x, l, c, zs, hcs, _, hl, hm, hz, _, hcell, hwz⟩
    · simp [Value.cells] at hcs
      obtain ⟨rfl, rfl, rfl⟩ := hcs
      exact ⟨[], .inl ⟨rfl, rfl, rfl, rfl⟩⟩
    · simp [Value.cells] at hcs
      obtain ⟨rfl, rfl, rfl⟩ := hcs
      exact ⟨zs, .inr ⟨_, rfl, hl, hm, by simpa using hz, hcell, hwz⟩⟩
  obtain ⟨a1, len1, cap1, rfl⟩ := okWide_slice Try.underlying37 (hval 1 37 v1 rfl rfl)
  have k1 := h1
  have lt1 : ∀ x ∈ p1, x.block < W.heap.size := by obtain ⟨m, hm⟩ := k1; exact DataW.trod_lt m _ _ _ hm
  obtain ⟨z1, w1⟩ : ∃ zs, IsRow .u8 W a1 len1 cap1 zs := by
    obtain ⟨fuel, hf⟩ := h1
    rcases open_ints Try.underlying37 Try.underlying5 (by kernel_rfl) hf with ⟨hcs, _⟩ | ⟨x, l, c, zs, hcs, _, hl, hm, hz, _, hcell, hwz⟩
    · simp [Value.cells] at hcs
      obtain ⟨rfl, rfl, rfl⟩ := hcs
      exact ⟨[], .inl ⟨rfl, rfl, rfl, rfl⟩⟩
    · simp [Value.cells] at hcs
      obtain ⟨rfl, rfl, rfl⟩ := hcs
      exact ⟨zs, .inr ⟨_, rfl, hl, hm, by simpa using hz, hcell, hwz⟩⟩
  clear hA0 hval0
  refine (arenaAgain_walk a0 len0 cap0 z0 a1 len1 cap1 z1 W w0 w1).mono fun e W' ⟨he, bel⟩ => ?_
  subst he
  exact ⟨_, rfl, _, _, _, [], _, [], hW', trodAll_mk1 (shut_bool Try.underlying4 _), (trodAll_cons_mk (Below.trod Try.laidOut (by kernel_rfl) (of_decide_eq_true (by kernel_rfl)) k0 bel lt0) (trodAll_cons_mk (Below.trod Try.laidOut (by kernel_rfl) (of_decide_eq_true (by kernel_rfl)) k1 bel lt1) trodAll_mk0)), rfl, bel.frame _, fun h => by cases h⟩

theorem arenaAgain_over : Rows.arenaAgainRow.holds Try.pinned (OpenSpec.ofChange Rows.arenaAgainSpec) :=
  OpenClaim.holds_of_wide 11 Try.f11 rfl rfl rfl rfl rfl rfl rfl ⟨rfl, rfl, rfl, rfl, rfl⟩ rfl rfl rfl rfl rfl (by kernel_rfl) Try.func11 (by kernel_rfl)
    (of_decide_eq_true (by kernel_rfl)) (by unfold Func.isWrapper; first | (rw [if_pos (by decide +kernel)]; kernel_rfl) | (rw [if_neg (by decide +kernel)]; exact ⟨rfl, rfl⟩))
    (fun os started H enc _ => arenaAgain_lifted os started H enc)

theorem arenaAgain_proved : Rows.ArenaAgainSaid := arenaAgain_over
#print axioms arenaAgain_proved
end Go.Proofs.Ytmphpdonpaefpaa
