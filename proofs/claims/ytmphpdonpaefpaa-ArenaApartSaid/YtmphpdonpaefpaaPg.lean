/-
  Called with any bytes, grommetlaw04.ArenaApart returns true; no condition.
-/
import Derived.Test.YtmphpdonpaefpaaAh
import Derived.WalkKit
import Derived.ProofKit
import Derived.OpenShut
import Derived.ShutString
import Derived.ChangeOld
import Derived.Below
namespace Go.Proofs.Ytmphpdonpaefpaa
open Go.ChangeShapes Go.WideShapes Go.ChangeAt Go.RowKit
open Go.ChangeMaps (open_string shut_string)
set_option linter.unusedVariables false


set_option maxHeartbeats 4000000 in
set_option maxRecDepth 100000 in
theorem arenaApart_walk (a0 : Option Addr) (len0 cap0 : Nat) (z0 : List Int) (a1 : Option Addr) (len1 cap1 : Nat) (z1 : List Int) (w : World) (w0 : IsRow .u8 w a0 len0 cap0 z0) (w1 : IsRow .u8 w a1 len1 cap1 z1) :
    Calls Try.prog 9 #[.slice a0 len0 cap0, .slice a1 len1 cap1] w fun e w' => e = .returned (.bool true) ∧ Below w.heap.size w w' := by
  obtain ⟨l0, hb0⟩ := byt_of_row w0
  obtain ⟨l1, hb1⟩ := byt_of_row w1
  obtain ⟨i0, hii, hz0, hz1, hz2⟩ := info_parts info3
  obtain ⟨j0, hjj, hy0, hy1, hy2⟩ := info_parts info5
  have hcap0 : cap0 ≤ 9223372036854775807 := hb0.2.2.2.1
  have hlc0 : len0 ≤ cap0 := hb0.2.2.1
  have hcap1 : cap1 ≤ 9223372036854775807 := hb1.2.2.2.1
  have hlc1 : len1 ≤ cap1 := hb1.2.2.1
  have HB0 := Lib.hid hb0
  have HB1 := Lib.hid hb1
  clear w0 w1 hb0 hb1
  by_cases hbig : 30 < len0 ∨ (len0 ≤ 30 ∧ 30 < len1)
  · rcases hbig with h | ⟨h, h'⟩
    all_goals
      go_enter Try.func9, Try.ntmps9
      go_wp2_with (first
        | (go_at_call 25; refine (awake4_any _).mono ?_; rintro e w1 ⟨rfl, hb1⟩; have HB1 := Lib.hid hb1; clear hb1))
      go_ret
      exact ⟨rfl, HB1.out⟩
  · have hl0 : len0 ≤ 30 := by omega
    have hl1 : len1 ≤ 30 := by omega
    obtain ⟨cs, hcs⟩ : ∃ cs : Nat → Nat, cs = fun j => cl ((l0.getD j 0 : Nat) : Int) := ⟨_, rfl⟩
    have hzl : ∀ j, l0.getD j 0 < 256 := fun j => by
      rw [List.getD_eq_getElem?_getD]
      rcases Nat.lt_or_ge j l0.length with h | h
      · rw [List.getElem?_eq_getElem h]; exact HB0.out.2.1 _ (List.getElem_mem _)
      · rw [List.getElem?_eq_none h]; decide
    have HZ := Lib.hid hzl
    have H16 : Hid (∀ j, 16 ≤ cs j) := Lib.hid (fun j => by rw [hcs]; exact cl_lo _)
    have HLE : Hid (∀ j, cs j ≤ 256) := Lib.hid (fun j => by rw [hcs]; exact cl_small ⟨_, hzl j⟩)
    have HCS := Lib.hid hcs
    clear hcs hzl hbig
    go_enter Try.func9, Try.ntmps9
    go_wp2_with fail
    refine (awake4_any _).mono ?_
    rintro e w1 ⟨rfl, hb1⟩
    have HW1 := Lib.hid hb1
    clear hb1
    go_wp2_with fail
    refine (ANew_ok 6000 _ (by omega)).mono ?_
    rintro e w2 ⟨a, bb, rm, gm, rfl, h2, b2, ha, hb, hr, hg⟩
    have HR0 : Hid (ARel w a bb rm gm (nuA 6000) w2) := Lib.hid (ARel.new HW1.out h2 b2 ha hb hr hg)
    clear h2 b2 ha hb hr hg
    go_wp2_with fail
    go_loopw [7, 8] (fun u7 i wr => ∃ (k : Nat) (v7 : Value), k ≤ len0 ∧ v7 = u7 ∧ i = .int .i64 k ∧ ∃ d, Hid (ARel w a bb rm gm d wr) ∧ Hid (d.sz = 6000 ∧ TS cs k d ∧ MS cs k d) ∧ Hid (wr.ownsRow w.heap.size 3 1 v7 k (PR cs k))) (fun _ i _ => len0 - (intOf i).toNat)
    case atStart => exact ⟨0, _, Nat.zero_le _, rfl, rfl, nuA 6000, HR0, Lib.hid ⟨rfl, ⟨fun j hj => absurd hj (Nat.not_lt_zero _), rfl, rfl, fun _ => rfl, rfl⟩, fun j hj => absurd hj (Nat.not_lt_zero _)⟩, Lib.hid (World.ownsRow_nil w2 _ 3 1)⟩
    case round =>
      obtain ⟨k, v7, hk, rfl, rfl, d, HR, HT, HO⟩ := hrel
      by_cases hlt : k < len0 ∧ lv cs k + cs k ≤ 6000
      · obtain ⟨hlt, hfit⟩ := hlt
        obtain ⟨b, off, rfl, hbl, hcell⟩ := HB0.out.2.2.2.2 (by omega)
        have HD0 : Hid (w.cell? ⟨b, off + k, none⟩ = some (.int .u8 ((l0.getD k 0 : Nat) : Int)) ∧ b < w.heap.size) := Lib.hid ⟨hcell k hlt, hbl⟩
        have d0 : wr.cell? ⟨b, off + k, none⟩ = some (.int .u8 ((l0.getD k 0 : Nat) : Int)) := (HR.out.bel.cell (p := ⟨b, off + k, none⟩) hbl).trans (hcell k hlt)
        have hz := HZ.out k
        have HCK : Hid (cl ((l0.getD k 0 : Nat) : Int) = cs k) := Lib.hid (by rw [HCS.out])
        clear hcell hbl
        generalize l0.getD k 0 = z at *
        have hTo : d.ops < 1000000 := by rw [HT.out.2.1.ops]; omega
        have hc16 := H16.out k
        have hc256 := HLE.out k
        go_wp2_with fail
        refine (Take_cut a bb rm gm d (z : Int) wr HR.out.are (by omega) (by omega) (HT.out.2.1.gn _) (by rw [HCK.out, HT.out.2.1.height, HT.out.1]; exact hfit) hTo).mono ?_
        rintro e w3 ⟨rfl, h3, f3⟩
        have HR3 := Lib.hid (HR.out.takeC h3 f3)
        have HT3 : Hid (((d.cut (cl (z : Int))).take d.height (cl (z : Int))).sz = 6000 ∧ TS cs (k + 1) ((d.cut (cl (z : Int))).take d.height (cl (z : Int))) ∧ MS cs (k + 1) (((d.cut (cl (z : Int))).take d.height (cl (z : Int))).cpy (lv cs k) (List.replicate (cs k) (k + 1)))) := Lib.hid ⟨HT.out.1, HT.out.2.1.next H16.out HCK.out, HT.out.2.2.next HCK.out HT.out.2.1.height (by rw [HR.out.are.len, HT.out.1, HT.out.2.1.height]; exact hfit)⟩
        have HO3 : Hid (w3.ownsRow w.heap.size 3 1 v7 k (PR cs k)) := Lib.hid (own_fr HO.out f3 (fun g cur hg _ => HR.out.are.row_ne hg))
        have hHk : d.height = lv cs k := HT.out.2.1.height
        have HHk := Lib.hid hHk
        have HB3 : Hid (w.heap.size ≤ w3.heap.size) := Lib.hid HR3.out.bel.size
        have hlv : lv cs k ≤ 6000 := by omega
        clear h3 f3 hHk d0
        rw [HHk.out]
        generalize ((d.cut (cl (z : Int))).take d.height (cl (z : Int))) = d3 at *
        have hck : cl (z : Int) = cs k := HCK.out
        have HClass : Hid (∀ W, Calls Try.prog 34 #[.int .i64 (z : Int)] W fun e w' => e = .returned (.int .i64 (cs k)) ∧ W = w') := Lib.hid (fun W => by rw [← hck]; exact Class_any (z : Int) W (by omega))
        have hzc : (z : Int) ≤ (cs k : Int) := by rw [← hck]; exact cl_ge (by omega)
        have hne : (((cs k : Nat) : Int) != ((cs k : Nat) : Int)) = false := by simp
        have hb8 : ((k : Int) + 1) % 256 = (k : Int) + 1 := by omega
        have HGn := Lib.hid HT3.out.2.1.gn
        clear hck
        have HRk : Hid (d3.R (lv cs k) = some (cs k)) := Lib.hid (HT3.out.2.1.rs k (by omega))
        go_wp2_with (first
          | (at_builtin
             refine wpList_append_own _ rfl (.tmp 65) (.tmp 67) 61 rfl w.heap.size 3 i0 (.int .i64 0) 1 8 Try.underlying61 hii hz0 hz1 hz2 rfl (by decide) v7 k (PR cs k) rfl (HO3.out.alloc _) ⟨w3.heap.size, 0, none⟩ 1 1 [.int .i64 ((lv cs k : Nat) : Int)] rfl rfl (Blk.src (Blk.new w3 3 _)) (by simp [Value.oneCell']) (by unfold maxLen; omega) (by omega) (by have := HB3.out; simp; omega) ?_
             intro v' w4 hown4 hgrow4 _
             have HR4 : Hid (ARel w a bb rm gm d3 w4) := Lib.hid (by
               have f4 : Fr (fun q => v7.ownBlock = some q) w3 w4 := ((Fr.refl _ w3).alloc _).trans (Fr.grownV hgrow4)
               refine HR3.out.fr0 HGn.out f4 (fun q hq hq2 => ?_) (fun q hq => ?_)
               · rcases HO3.out.2 with ⟨e, _⟩ | ⟨g, cp, cur, e, _, hg, _⟩
                 · rw [e] at hq2; cases hq2
                 · rw [e] at hq2
                   injection hq2 with hq2
                   subst hq2
                   exact HR3.out.are.row_ne hg hq
               · exact (HO3.out.lt q hq).1)
             have HO4 : Hid (w4.ownsRow w.heap.size 3 1 v' (k + 1) (PR cs (k + 1))) := Lib.hid (by rw [PR_succ]; exact hown4)
             have d4 : w4.cell? ⟨b, off + k, none⟩ = some (.int .u8 (z : Int)) := (HR4.out.bel.cell (p := ⟨b, off + k, none⟩) HD0.out.2).trans HD0.out.1
             have HRoom := Lib.hid (Room_yes HR4.out.are HRk.out)
             clear hown4 hgrow4)
          | (go_at_call 33; refine HRoom.out.mono ?_; rintro e w' ⟨rfl, rfl⟩)
          | (go_at_call 34; refine (HClass.out _).mono ?_; rintro e w' ⟨rfl, rfl⟩)
          | (at_make
             refine wpList_make_lc _ rfl (.tmp 92) (.tmp 92) 37 rfl 5 j0 _ Try.underlying37 hjj hy0 hy1 .i64 .i64 _ _ (cs k) (cs k) rfl rfl rfl rfl (Nat.le_refl _) (by rw [hy2]; omega) (by unfold maxLen; omega) ?_
             intro w5 hg5 hbel5
             have HG5 : Hid (Blk w5 w4.heap.size 5 ((fillL 0 (cs k) (k + 1)).map U8).toArray) := Lib.hid (by
               have := hg5.out
               rw [show fillL 0 (cs k) (k + 1) = zsA (cs k) from by simp [fillL, zsA], ← madeA]
               exact this)
             have HB5 := Lib.hid hbel5
             clear hg5 hbel5))
        obtain ⟨bq, hbq⟩ : ∃ bq, bq = w4.heap.size := ⟨_, rfl⟩
        have HBQ := Lib.hid hbq
        rw [← hbq] at HG5 ⊢
        clear hbq d4
        go_loopw [14] (fun x wr => ∃ q : Nat, q ≤ cs k ∧ x = .int .i64 q ∧ Hid (Blk wr bq 5 ((fillL q (cs k) (k + 1)).map U8).toArray) ∧ Hid (Fr (· = bq) w5 wr)) (fun x _ => cs k - (intOf x).toNat)
        case atStart => exact ⟨0, Nat.zero_le _, rfl, HG5, Lib.hid (Fr.refl _ w5)⟩
        case round =>
          obtain ⟨q, hq, rfl, HQ, HF⟩ := hrel
          by_cases hq2 : q < cs k
          · have e0 : (fillL q (cs k) (k + 1)).length = cs k := by simp [fillL]; omega
            have d5 : ∃ v0, wr.cell? ⟨bq, q, none⟩ = some v0 := by
              rw [HQ.out.cell q, List.getElem?_toArray]
              exact ⟨_, List.getElem?_eq_getElem (by rw [List.length_map, e0]; exact hq2)⟩
            obtain ⟨v0, d5⟩ := d5
            have z5 := HQ.out.frozen q
            have HN : Hid (Blk (wr.setCell ⟨bq, q, none⟩ (.int .u8 ((k : Int) + 1))) bq 5 ((fillL (q + 1) (cs k) (k + 1)).map U8).toArray) := Lib.hid (fillL_blk HQ.out hq2)
            have HFN : Hid (Fr (· = bq) w5 (wr.setCell ⟨bq, q, none⟩ (.int .u8 ((k : Int) + 1)))) := Lib.hid (HF.out.set_ (p := ⟨bq, q, none⟩) rfl _)
            clear e0
            go_wp2
            go_roundw
            case rel => exact ⟨q + 1, by omega, by go_num, HN, HFN⟩
            case measure => simp [intOf]; omega
          · obtain rfl : q = cs k := by omega
            have hlt4 : ∀ g, arb a bb rm gm g → g < w4.heap.size := fun g hg => HR4.out.are.mlt (by
              rcases hg with e | e | e | e
              · exact .inl e
              · exact .inr (.inl e)
              · exact .inr (.inr (.inl e))
              · exact .inr (.inr (.inr (.inl e))))
            have hbq4 := HBQ.out
            have HR5 : Hid (ARel w a bb rm gm d3 wr) := Lib.hid ((HR4.out.mv HB5.out).fr0 HGn.out HF.out (fun g hg e => by have := hlt4 g hg; omega) (fun g e => by have := HR4.out.bel.size; omega))
            have HO5 : Hid (wr.ownsRow w.heap.size 3 1 v' (k + 1) (PR cs (k + 1))) := Lib.hid (by
              refine own_fr (own_fr HO4.out (Fr.of_below (S := fun _ => False) HB5.out) (fun _ _ _ _ e => e)) HF.out (fun g cur _ hv e => ?_)
              have := (HO4.out.lt g hv).2
              omega)
            have HY : Hid (Byt wr (some ⟨bq, 0, none⟩) (cs k) (cs k) (List.replicate (cs k) (k + 1))) := Lib.hid (by
              have h1 := HQ.out
              rw [show fillL (cs k) (cs k) (k + 1) = List.replicate (cs k) (k + 1) from by simp [fillL]] at h1
              exact byt_of_blk h1 (by simp) (fun x hx => by have := List.eq_of_mem_replicate hx; omega) (by unfold maxLen; omega))
            have hdz : lv cs k + cs k ≤ d3.sz := by rw [HT3.out.1]; exact hfit
            clear hlt4 hbq4
            go_wp2_with fail
            refine (Copy_ok a bb rm gm d3 (lv cs k) (cs k) (cs k) (some ⟨bq, 0, none⟩) (List.replicate (cs k) (k + 1)) wr HR5.out.are HY.out (by omega) hdz).mono ?_
            rintro e w6 ⟨rfl, h6, f6⟩
            have HR6 := Lib.hid (HR5.out.cpy h6 f6)
            have HO6 : Hid (w6.ownsRow w.heap.size 3 1 v' (k + 1) (PR cs (k + 1))) := Lib.hid (own_fr HO5.out f6 (fun g cur hg _ e => HR5.out.are.row_ne hg (.inr (.inl e))))
            have HT6 : Hid ((d3.cpy (lv cs k) (List.replicate (cs k) (k + 1))).sz = 6000 ∧ TS cs (k + 1) (d3.cpy (lv cs k) (List.replicate (cs k) (k + 1))) ∧ MS cs (k + 1) (d3.cpy (lv cs k) (List.replicate (cs k) (k + 1)))) := Lib.hid ⟨HT3.out.1, ⟨HT3.out.2.1.rs, HT3.out.2.1.live, HT3.out.2.1.height, HT3.out.2.1.gn, HT3.out.2.1.ops⟩, HT3.out.2.2⟩
            clear h6 f6
            go_wp2_with fail
            go_roundw
            case rel => first | exact ⟨k + 1, _, by omega, rfl, by go_num, _, HR6, HT6, HO6⟩ | ((repeat apply Exists.intro); exact ⟨⟨k + 1, _, by omega, rfl, by go_num, _, HR6, HT6, HO6⟩, rfl⟩)
            case measure => simp [intOf]; omega
      · have hex : len0 ≤ k ∨ (k < len0 ∧ 6000 < lv cs k + cs k) := by omega
        clear hlt
        rcases hex with hx | ⟨hx, hx'⟩
        rotate_left
        · obtain ⟨b, off, rfl, hbl, hcell⟩ := HB0.out.2.2.2.2 (by omega)
          have d0 : wr.cell? ⟨b, off + k, none⟩ = some (.int .u8 ((l0.getD k 0 : Nat) : Int)) := (HR.out.bel.cell (p := ⟨b, off + k, none⟩) hbl).trans (hcell k hx)
          have hz := HZ.out k
          have HCK : Hid (cl ((l0.getD k 0 : Nat) : Int) = cs k) := Lib.hid (by rw [HCS.out])
          clear hcell hbl
          generalize l0.getD k 0 = z at *
          go_wp2_with fail
          refine (Take_full a bb rm gm d (z : Int) wr HR.out.are (by omega) (by omega) (HT.out.2.1.gn _) (by rw [HCK.out, HT.out.2.1.height, HT.out.1]; exact hx')).mono ?_
          rintro e w3 ⟨rfl, kd, hw3⟩
          have HR3 : Hid (ARel w a bb rm gm d w3) := Lib.hid (by rw [← hw3]; exact HR.out.drewN kd)
          have HO3 : Hid (w3.ownsRow w.heap.size 3 1 v7 k (PR cs k)) := Lib.hid (by rw [← hw3]; exact HO.out)
          clear HR HO hw3 d0 HCK
          obtain ⟨wr, hwr⟩ : ∃ x, x = w3 := ⟨_, rfl⟩
          subst hwr
          have HR := HR3
          have HO := HO3
          clear HR3 HO3
          have HSz : Hid (d.sz = 6000 ∧ d.height = lv cs k ∧ (∀ j, j < k → d.R (lv cs j) = some (cs j)) ∧ MS cs k d ∧ (∀ c, d.G c = []) ∧ d.ops ≤ 30) := Lib.hid ⟨HT.out.1, HT.out.2.1.height, HT.out.2.1.rs, HT.out.2.2, HT.out.2.1.gn, by rw [HT.out.2.1.ops]; omega⟩
          obtain ⟨A, cap, hv7, hp1, hp2, hp3⟩ := pls_of_own HO.out
          have HP : Hid (Pls wr wr.heap.size (.slice A k cap) k (lv cs)) := Lib.hid ⟨A, cap, rfl, hp1, hp2, hp3⟩
          have HNE : Hid (0 < k → ∀ A' cap', Value.slice A k cap = .slice A' k cap' → ∀ g, A' = some ⟨g, 0, none⟩ → ¬ arb a bb rm gm g) := Lib.hid (by
            rintro h0 A' cap' e' g rfl
            rcases HO.out.2 with ⟨e, _⟩ | ⟨g', cp, cur, e, _, hg, _⟩
            · rw [hv7, e'] at e; cases e
            · rw [hv7, e'] at e
              injection e with e
              injection e with e
              injection e with e
              subst e
              exact HR.out.are.row_ne hg)
          subst hv7
          have hcap : cap ≤ 9223372036854775807 := hp2
          have hkc : k ≤ cap := hp1
          clear hp1 hp2 hp3 HT HO HR0 HW1
          obtain ⟨B, hB⟩ : ∃ B, B = wr.heap.size := ⟨_, rfl⟩
          rw [← hB] at HP
          clear hB
          go_wp2_with fail
          go_loopw [15] (fun i wr => ∃ j : Nat, j ≤ k ∧ i = .int .i64 j ∧ Hid (ARel w a bb rm gm d wr) ∧ Hid (Pls wr B (.slice A k cap) k (lv cs))) (fun i _ => k - (intOf i).toNat)
          case atStart => exact ⟨0, Nat.zero_le _, rfl, HR, HP⟩
          case round =>
            obtain ⟨j, hj, rfl, HR, HP⟩ := hrel
            by_cases hlt : j < k
            · obtain ⟨A', cap', e', hp1, hp2, hp⟩ := HP.out
              obtain ⟨g, hgA, hgB, hgw, hgc⟩ := hp (by omega)
              injection e' with e1 e2 e3
              subst e3
              subst e1
              subst hgA
              have d1 : wr.cell? ⟨g, j, none⟩ = some (.int .i64 ((lv cs j : Nat) : Int)) := hgc _ hlt
              have HD1 := Lib.hid d1
              clear hp hgc hp1 hp2
              have hc16 := H16.out j
              have hc256 := HLE.out j
              have hst := lv_step cs j k hlt
              have hht : lv cs k ≤ 6000 := by have := HR.out.are.hsz; rw [HSz.out.1, HSz.out.2.1] at this; exact this
              have HRoom := Lib.hid (Room_yes HR.out.are (HSz.out.2.2.1 j hlt))
              go_wp2_with fail
              refine HRoom.out.mono ?_
              rintro e w4 ⟨rfl, rfl⟩
              go_wp2_with fail
              refine (Bytes_ok a bb rm gm d (lv cs j) (cs j) wr HR.out.are (by omega) (by rw [HSz.out.1]; omega)).mono ?_
              rintro e w5 ⟨b5, rfl, hby, hb5⟩
              have HR5 := Lib.hid (HR.out.mv hb5)
              have HP5 : Hid (Pls w5 B (.slice (some ⟨g, 0, none⟩) k cap) k (lv cs)) := Lib.hid (HP.out.fr (Fr.of_below (S := fun _ => False) hb5) (fun _ _ _ _ _ _ e => e))
              have HY := Lib.hid hby
              have d5 : w5.cell? ⟨g, j, none⟩ = some (.int .i64 ((lv cs j : Nat) : Int)) := (hb5.cell (p := ⟨g, j, none⟩) hgw).trans d1
              have HQH : Hid (∀ n, Calls Try.prog 31 #[.pointer (some ⟨a, 0, none⟩)] (w5.drewN n) fun e w' => e = .returned (.int .i64 ((lv cs k : Nat) : Int)) ∧ w5.drewN n = w') := Lib.hid (fun n => by
                have := Height_any (HR5.out.are.drewN n)
                rw [HSz.out.2.1] at this
                exact this)
              have hmm : ∀ x, x < cs j → ((d.mem.drop (lv cs j)).take (cs j)).getD x 0 = j + 1 := fun x hx => by
                rw [List.getD_eq_getElem?_getD, List.getElem?_take_of_lt hx, List.getElem?_drop, HSz.out.2.2.2.1 j hlt x hx]; rfl
              have HMM := Lib.hid hmm
              have hj8 : ((j : Int) + 1) % 256 = (j : Int) + 1 := by omega
              have hgt : decide (((lv cs k : Nat) : Int) < ((lv cs j : Nat) : Int) + ((cs j : Nat) : Int)) = false := decide_eq_false (by omega)
              clear hby hb5 d1 hmm
              go_wp2_with fail
              go_quiet ((go_at_call 31; exact quiet_left (HQH.out _)))
              go_wp2_with fail
              go_loop [20] (fun x => ∃ q : Nat, q ≤ cs j ∧ x = .int .i64 q) (fun x => cs j - (intOf x).toNat)
              case atStart => exact ⟨0, Nat.zero_le _, rfl⟩
              case round =>
                obtain ⟨q, hq, rfl⟩ := hrel
                by_cases hq2 : q < cs j
                · obtain ⟨b', off', e', _, hcell⟩ := HY.out.2.2.2.2 (by omega)
                  injection e' with e'
                  injection e' with e1 e2
                  subst e1
                  subst e2
                  have hc := hcell q hq2
                  rw [Nat.zero_add, HMM.out q hq2] at hc
                  have hc' : w5.cell? ⟨b5, q, none⟩ = some (.int .u8 ((j : Int) + 1)) := hc
                  have hne : (((j : Int) + 1) != ((j : Int) + 1)) = false := by simp
                  clear hcell hc
                  go_wp2_with fail
                  go_round
                  case rel => exact ⟨q + 1, by omega, by go_num⟩
                  case measure => simp [intOf]; omega
                · go_wp2_with fail
                  go_roundw
                  case rel => first | exact ⟨j + 1, by omega, by go_num, Lib.hid (HR5.out.drewN _), Lib.hid HP5.out⟩ | ((repeat apply Exists.intro); exact ⟨⟨j + 1, by omega, by go_num, Lib.hid (HR5.out.drewN _), Lib.hid HP5.out⟩, rfl⟩)
                  case measure => simp [intOf]; omega
            · have HG0 : Hid (d.sz = 6000 ∧ d.height = lv cs k ∧ (∀ j, j < k → d.R (lv cs j) = some (cs j)) ∧ (∀ c, d.G c = []) ∧ d.ops ≤ 30 + 2 * 0) := Lib.hid ⟨HSz.out.1, HSz.out.2.1, HSz.out.2.2.1, HSz.out.2.2.2.2.1, HSz.out.2.2.2.2.2⟩
              clear HSz
              go_wp2_with fail
              go_loopw [21] (fun i wr => ∃ jj : Nat, jj ≤ len1 ∧ i = .int .i64 jj ∧ ∃ d, Hid (ARel w a bb rm gm d wr) ∧ Hid (d.sz = 6000 ∧ d.height = lv cs k ∧ (∀ j, j < k → d.R (lv cs j) = some (cs j)) ∧ (∀ c, d.G c = []) ∧ d.ops ≤ 30 + 2 * jj) ∧ Hid (Pls wr B (.slice A k cap) k (lv cs))) (fun i _ => len1 - (intOf i).toNat)
              case atStart => exact ⟨0, Nat.zero_le _, rfl, d, HR, HG0, HP⟩
              case round =>
                obtain ⟨jj, hjj2, rfl, d, HR, HG, HP⟩ := hrel
                by_cases hlt : jj < len1 ∧ 0 < k
                · obtain ⟨hlt, hk0⟩ := hlt
                  obtain ⟨b, off, rfl, hbl, hcell⟩ := HB1.out.2.2.2.2 (by omega)
                  have d0 : wr.cell? ⟨b, off + jj, none⟩ = some (.int .u8 ((l1.getD jj 0 : Nat) : Int)) := (HR.out.bel.cell (p := ⟨b, off + jj, none⟩) hbl).trans (hcell jj hlt)
                  have hz : l1.getD jj 0 < 256 := HB1.out.2.1 _ (by rw [List.getD_eq_getElem?_getD, List.getElem?_eq_getElem (by have := HB1.out.1; omega)]; exact List.getElem_mem _)
                  clear hcell hbl
                  generalize l1.getD jj 0 = z at *
                  obtain ⟨A', cap', e', hp1, hp2, hp⟩ := HP.out
                  obtain ⟨g, hgA, hgB, hgw, hgc⟩ := hp hk0
                  injection e' with e1 e2 e3
                  subst e3
                  subst e1
                  subst hgA
                  have hq : z % k < k := Nat.mod_lt _ hk0
                  have d1 : wr.cell? ⟨g, z % k, none⟩ = some (.int .i64 ((lv cs (z % k) : Nat) : Int)) := hgc _ hq
                  have hc16 := H16.out (z % k)
                  have hc256 := HLE.out (z % k)
                  have hst := lv_step cs (z % k) k hq
                  have hht : lv cs k ≤ 6000 := by have := HR.out.are.hsz; rw [HG.out.1, HG.out.2.1] at this; exact this
                  have HRq : Hid (d.R (lv cs (z % k)) = some (cs (z % k))) := Lib.hid (HG.out.2.2.1 _ hq)
                  have HRoom := Lib.hid (Room_yes HR.out.are HRq.out)
                  have hops : d.ops < 999999 := by have := HG.out.2.2.2.2; omega
                  have HCA : Hid (cl ((cs (z % k) : Nat) : Int) = cs (z % k)) := Lib.hid (by rw [HCS.out]; exact cl_again ⟨_, HZ.out _⟩)
                  clear hp hgc hp1 hp2
                  go_wp2_with fail
                  refine HRoom.out.mono ?_
                  rintro e w4 ⟨rfl, rfl⟩
                  go_wp2_with fail
                  refine (Give_ok a bb rm gm d (lv cs (z % k)) (cs (z % k)) wr HR.out.are HRq.out (by omega)).mono ?_
                  rintro e w4 ⟨v, rfl, h4, f4, hv⟩
                  have HR4 := Lib.hid (HR.out.give h4 f4 hv)
                  have HP4 : Hid (Pls w4 B (.slice (some ⟨g, 0, none⟩) k cap) k (lv cs)) := Lib.hid (HP.out.give (p := 0) HR.out.are (fun c hc => absurd (HG.out.2.2.2.1 c) hc) f4 (fun h0 A' cap' e' g' eg => by
                    have := HNE.out h0 A' cap' e' g' eg
                    exact ⟨fun q => this (.inl q), fun q => this (.inr (.inr (.inl q))), fun q => this (.inr (.inr (.inr q)))⟩))
                  have HGq : Hid ((d.give (lv cs (z % k)) (cs (z % k)) v).G (cl ((cs (z % k) : Nat) : Int)) = [] ++ [lv cs (z % k)]) := Lib.hid (by
                    rw [HCA.out]
                    simp only [Ad.give, if_pos]
                    rw [HG.out.2.2.2.1])
                  clear h4 f4 hv d0 d1
                  go_wp2_with fail
                  refine (Take_given a bb rm gm (d.give (lv cs (z % k)) (cs (z % k)) v) ((cs (z % k) : Nat) : Int) [] (lv cs (z % k)) w4 HR4.out.are (by omega) (by omega) HGq.out (by show d.ops + 1 < _; omega)).mono ?_
                  rintro e w5 ⟨v2, rfl, h5, f5, hv5⟩
                  have HR5 := HR4.out.takeG HGq.out h5 f5 hv5
                  rw [HCA.out] at HR5
                  have HR5 := Lib.hid HR5
                  have HP5 : Hid (Pls w5 B (.slice (some ⟨g, 0, none⟩) k cap) k (lv cs)) := Lib.hid (HP4.out.fr f5 (fun h0 A' cap' e' g' eg => HNE.out h0 A' cap' e' g' eg))
                  have HG5 : Hid (∀ d5, d5 = ((d.give (lv cs (z % k)) (cs (z % k)) v).pop (cs (z % k)) [] v2).take (lv cs (z % k)) (cs (z % k)) → d5.sz = 6000 ∧ d5.height = lv cs k ∧ (∀ j, j < k → d5.R (lv cs j) = some (cs j)) ∧ (∀ c, d5.G c = []) ∧ d5.ops ≤ 30 + 2 * (jj + 1) ∧ d5.mem = zeroM d.mem (lv cs (z % k)) (cs (z % k))) := Lib.hid (by
                    rintro d5 rfl
                    refine ⟨HG.out.1, HG.out.2.1, fun j hj => ?_, fun c => ?_, by show d.ops + 1 + 1 ≤ _; have := HG.out.2.2.2.2; omega, rfl⟩
                    · by_cases e : j = z % k
                      · rw [e]; simp [Ad.take]
                      · simp only [Ad.take, Ad.pop, Ad.give, if_neg (lv_inj H16.out e)]
                        exact HG.out.2.2.1 j hj
                    · by_cases e : c = cs (z % k)
                      · simp [Ad.take, Ad.pop, e]
                      · simp only [Ad.take, Ad.pop, Ad.give, if_neg e]
                        exact HG.out.2.2.2.1 c)
                  have hml : d.mem.length = 6000 := by rw [HR.out.are.len, HG.out.1]
                  have HML := Lib.hid hml
                  clear h5 f5 hv5 hml
                  obtain ⟨d5, hd5⟩ : ∃ d5, d5 = ((d.give (lv cs (z % k)) (cs (z % k)) v).pop (cs (z % k)) [] v2).take (lv cs (z % k)) (cs (z % k)) := ⟨_, rfl⟩
                  have HG6 := Lib.hid (HG5.out d5 hd5)
                  rw [← hd5] at HR5
                  clear HG5 hd5
                  go_wp2_with fail
                  refine (Bytes_ok a bb rm gm d5 (lv cs (z % k)) (cs (z % k)) w5 HR5.out.are (by omega) (by rw [HG6.out.1]; omega)).mono ?_
                  rintro e w6 ⟨b6, rfl, hby, hb6⟩
                  rw [HG6.out.2.2.2.2.2, zeroM_in (by rw [HML.out]; omega)] at hby
                  have HR6 := Lib.hid (HR5.out.mv hb6)
                  have HP6 : Hid (Pls w6 B (.slice (some ⟨g, 0, none⟩) k cap) k (lv cs)) := Lib.hid (HP5.out.fr (Fr.of_below (S := fun _ => False) hb6) (fun _ _ _ _ _ _ e => e))
                  have HG7 : Hid (d5.sz = 6000 ∧ d5.height = lv cs k ∧ (∀ j, j < k → d5.R (lv cs j) = some (cs j)) ∧ (∀ c, d5.G c = []) ∧ d5.ops ≤ 30 + 2 * (jj + 1)) := Lib.hid ⟨HG6.out.1, HG6.out.2.1, HG6.out.2.2.1, HG6.out.2.2.2.1, HG6.out.2.2.2.2.1⟩
                  have HY := Lib.hid hby
                  have d6 : w6.cell? ⟨g, z % k, none⟩ = some (.int .i64 ((lv cs (z % k) : Nat) : Int)) := by
                    obtain ⟨A', cap', e', _, _, hp⟩ := HP6.out
                    obtain ⟨g', hgA, _, _, hgc⟩ := hp hk0
                    injection e' with e1 e2 e3
                    rw [hgA] at e1
                    injection e1 with e1
                    injection e1 with e1
                    subst e1
                    exact hgc _ hq
                  have haa : ∀ x : Int, (x != x) = false := by simp
                  have hbb : ∀ x : Nat, (x != x) = false := by simp
                  clear hby hb6
                  go_wp2_with fail
                  go_loop [29] (fun x => ∃ q : Nat, q ≤ cs (z % k) ∧ x = .int .i64 q) (fun x => cs (z % k) - (intOf x).toNat)
                  case atStart => exact ⟨0, Nat.zero_le _, rfl⟩
                  case round =>
                    obtain ⟨q, hq3, rfl⟩ := hrel
                    by_cases hq2 : q < cs (z % k)
                    · obtain ⟨b', off', e', _, hcell⟩ := HY.out.2.2.2.2 (by omega)
                      injection e' with e'
                      injection e' with e1 e2
                      subst e1
                      subst e2
                      have hc := hcell q hq2
                      rw [Nat.zero_add, List.getD_eq_getElem?_getD, List.getElem?_replicate, if_pos hq2] at hc
                      have hc' : w6.cell? ⟨b6, q, none⟩ = some (.int .u8 0) := hc
                      clear hcell hc
                      go_wp2_with fail
                      go_round
                      case rel => exact ⟨q + 1, by omega, by go_num⟩
                      case measure => simp [intOf]; omega
                    · go_wp2_with fail
                      go_roundw
                      case rel => first | exact ⟨jj + 1, by omega, by go_num, d5, HR6, HG7, HP6⟩ | ((repeat apply Exists.intro); exact ⟨⟨jj + 1, by omega, by go_num, d5, HR6, HG7, HP6⟩, rfl⟩)
                      case measure => simp [intOf]; omega
                · have hex : len1 ≤ jj ∨ (jj < len1 ∧ k ≤ 0) := by omega
                  clear hlt
                  rcases hex with h | ⟨h, h'⟩
                  all_goals
                    go_wp2_with fail
                    go_ret
                    exact ⟨rfl, HR.out.bel⟩
        · have hd50 : decide (k < len0) = false := decide_eq_false (by omega)
          have HSz : Hid (d.sz = 6000 ∧ d.height = lv cs k ∧ (∀ j, j < k → d.R (lv cs j) = some (cs j)) ∧ MS cs k d ∧ (∀ c, d.G c = []) ∧ d.ops ≤ 30) := Lib.hid ⟨HT.out.1, HT.out.2.1.height, HT.out.2.1.rs, HT.out.2.2, HT.out.2.1.gn, by rw [HT.out.2.1.ops]; omega⟩
          obtain ⟨A, cap, hv7, hp1, hp2, hp3⟩ := pls_of_own HO.out
          have HP : Hid (Pls wr wr.heap.size (.slice A k cap) k (lv cs)) := Lib.hid ⟨A, cap, rfl, hp1, hp2, hp3⟩
          have HNE : Hid (0 < k → ∀ A' cap', Value.slice A k cap = .slice A' k cap' → ∀ g, A' = some ⟨g, 0, none⟩ → ¬ arb a bb rm gm g) := Lib.hid (by
            rintro h0 A' cap' e' g rfl
            rcases HO.out.2 with ⟨e, _⟩ | ⟨g', cp, cur, e, _, hg, _⟩
            · rw [hv7, e'] at e; cases e
            · rw [hv7, e'] at e
              injection e with e
              injection e with e
              injection e with e
              subst e
              exact HR.out.are.row_ne hg)
          subst hv7
          have hcap : cap ≤ 9223372036854775807 := hp2
          have hkc : k ≤ cap := hp1
          clear hp1 hp2 hp3 HT HO HR0 HW1
          obtain ⟨B, hB⟩ : ∃ B, B = wr.heap.size := ⟨_, rfl⟩
          rw [← hB] at HP
          clear hB
          go_wp2_with fail
          go_loopw [15] (fun i wr => ∃ j : Nat, j ≤ k ∧ i = .int .i64 j ∧ Hid (ARel w a bb rm gm d wr) ∧ Hid (Pls wr B (.slice A k cap) k (lv cs))) (fun i _ => k - (intOf i).toNat)
          case atStart => exact ⟨0, Nat.zero_le _, rfl, HR, HP⟩
          case round =>
            obtain ⟨j, hj, rfl, HR, HP⟩ := hrel
            by_cases hlt : j < k
            · obtain ⟨A', cap', e', hp1, hp2, hp⟩ := HP.out
              obtain ⟨g, hgA, hgB, hgw, hgc⟩ := hp (by omega)
              injection e' with e1 e2 e3
              subst e3
              subst e1
              subst hgA
              have d1 : wr.cell? ⟨g, j, none⟩ = some (.int .i64 ((lv cs j : Nat) : Int)) := hgc _ hlt
              have HD1 := Lib.hid d1
              clear hp hgc hp1 hp2
              have hc16 := H16.out j
              have hc256 := HLE.out j
              have hst := lv_step cs j k hlt
              have hht : lv cs k ≤ 6000 := by have := HR.out.are.hsz; rw [HSz.out.1, HSz.out.2.1] at this; exact this
              have HRoom := Lib.hid (Room_yes HR.out.are (HSz.out.2.2.1 j hlt))
              go_wp2_with fail
              refine HRoom.out.mono ?_
              rintro e w4 ⟨rfl, rfl⟩
              go_wp2_with fail
              refine (Bytes_ok a bb rm gm d (lv cs j) (cs j) wr HR.out.are (by omega) (by rw [HSz.out.1]; omega)).mono ?_
              rintro e w5 ⟨b5, rfl, hby, hb5⟩
              have HR5 := Lib.hid (HR.out.mv hb5)
              have HP5 : Hid (Pls w5 B (.slice (some ⟨g, 0, none⟩) k cap) k (lv cs)) := Lib.hid (HP.out.fr (Fr.of_below (S := fun _ => False) hb5) (fun _ _ _ _ _ _ e => e))
              have HY := Lib.hid hby
              have d5 : w5.cell? ⟨g, j, none⟩ = some (.int .i64 ((lv cs j : Nat) : Int)) := (hb5.cell (p := ⟨g, j, none⟩) hgw).trans d1
              have HQH : Hid (∀ n, Calls Try.prog 31 #[.pointer (some ⟨a, 0, none⟩)] (w5.drewN n) fun e w' => e = .returned (.int .i64 ((lv cs k : Nat) : Int)) ∧ w5.drewN n = w') := Lib.hid (fun n => by
                have := Height_any (HR5.out.are.drewN n)
                rw [HSz.out.2.1] at this
                exact this)
              have hmm : ∀ x, x < cs j → ((d.mem.drop (lv cs j)).take (cs j)).getD x 0 = j + 1 := fun x hx => by
                rw [List.getD_eq_getElem?_getD, List.getElem?_take_of_lt hx, List.getElem?_drop, HSz.out.2.2.2.1 j hlt x hx]; rfl
              have HMM := Lib.hid hmm
              have hj8 : ((j : Int) + 1) % 256 = (j : Int) + 1 := by omega
              have hgt : decide (((lv cs k : Nat) : Int) < ((lv cs j : Nat) : Int) + ((cs j : Nat) : Int)) = false := decide_eq_false (by omega)
              clear hby hb5 d1 hmm
              go_wp2_with fail
              go_quiet ((go_at_call 31; exact quiet_left (HQH.out _)))
              go_wp2_with fail
              go_loop [20] (fun x => ∃ q : Nat, q ≤ cs j ∧ x = .int .i64 q) (fun x => cs j - (intOf x).toNat)
              case atStart => exact ⟨0, Nat.zero_le _, rfl⟩
              case round =>
                obtain ⟨q, hq, rfl⟩ := hrel
                by_cases hq2 : q < cs j
                · obtain ⟨b', off', e', _, hcell⟩ := HY.out.2.2.2.2 (by omega)
                  injection e' with e'
                  injection e' with e1 e2
                  subst e1
                  subst e2
                  have hc := hcell q hq2
                  rw [Nat.zero_add, HMM.out q hq2] at hc
                  have hc' : w5.cell? ⟨b5, q, none⟩ = some (.int .u8 ((j : Int) + 1)) := hc
                  have hne : (((j : Int) + 1) != ((j : Int) + 1)) = false := by simp
                  clear hcell hc
                  go_wp2_with fail
                  go_round
                  case rel => exact ⟨q + 1, by omega, by go_num⟩
                  case measure => simp [intOf]; omega
                · go_wp2_with fail
                  go_roundw
                  case rel => first | exact ⟨j + 1, by omega, by go_num, Lib.hid (HR5.out.drewN _), Lib.hid HP5.out⟩ | ((repeat apply Exists.intro); exact ⟨⟨j + 1, by omega, by go_num, Lib.hid (HR5.out.drewN _), Lib.hid HP5.out⟩, rfl⟩)
                  case measure => simp [intOf]; omega
            · have HG0 : Hid (d.sz = 6000 ∧ d.height = lv cs k ∧ (∀ j, j < k → d.R (lv cs j) = some (cs j)) ∧ (∀ c, d.G c = []) ∧ d.ops ≤ 30 + 2 * 0) := Lib.hid ⟨HSz.out.1, HSz.out.2.1, HSz.out.2.2.1, HSz.out.2.2.2.2.1, HSz.out.2.2.2.2.2⟩
              clear HSz
              go_wp2_with fail
              go_loopw [21] (fun i wr => ∃ jj : Nat, jj ≤ len1 ∧ i = .int .i64 jj ∧ ∃ d, Hid (ARel w a bb rm gm d wr) ∧ Hid (d.sz = 6000 ∧ d.height = lv cs k ∧ (∀ j, j < k → d.R (lv cs j) = some (cs j)) ∧ (∀ c, d.G c = []) ∧ d.ops ≤ 30 + 2 * jj) ∧ Hid (Pls wr B (.slice A k cap) k (lv cs))) (fun i _ => len1 - (intOf i).toNat)
              case atStart => exact ⟨0, Nat.zero_le _, rfl, d, HR, HG0, HP⟩
              case round =>
                obtain ⟨jj, hjj2, rfl, d, HR, HG, HP⟩ := hrel
                by_cases hlt : jj < len1 ∧ 0 < k
                · obtain ⟨hlt, hk0⟩ := hlt
                  obtain ⟨b, off, rfl, hbl, hcell⟩ := HB1.out.2.2.2.2 (by omega)
                  have d0 : wr.cell? ⟨b, off + jj, none⟩ = some (.int .u8 ((l1.getD jj 0 : Nat) : Int)) := (HR.out.bel.cell (p := ⟨b, off + jj, none⟩) hbl).trans (hcell jj hlt)
                  have hz : l1.getD jj 0 < 256 := HB1.out.2.1 _ (by rw [List.getD_eq_getElem?_getD, List.getElem?_eq_getElem (by have := HB1.out.1; omega)]; exact List.getElem_mem _)
                  clear hcell hbl
                  generalize l1.getD jj 0 = z at *
                  obtain ⟨A', cap', e', hp1, hp2, hp⟩ := HP.out
                  obtain ⟨g, hgA, hgB, hgw, hgc⟩ := hp hk0
                  injection e' with e1 e2 e3
                  subst e3
                  subst e1
                  subst hgA
                  have hq : z % k < k := Nat.mod_lt _ hk0
                  have d1 : wr.cell? ⟨g, z % k, none⟩ = some (.int .i64 ((lv cs (z % k) : Nat) : Int)) := hgc _ hq
                  have hc16 := H16.out (z % k)
                  have hc256 := HLE.out (z % k)
                  have hst := lv_step cs (z % k) k hq
                  have hht : lv cs k ≤ 6000 := by have := HR.out.are.hsz; rw [HG.out.1, HG.out.2.1] at this; exact this
                  have HRq : Hid (d.R (lv cs (z % k)) = some (cs (z % k))) := Lib.hid (HG.out.2.2.1 _ hq)
                  have HRoom := Lib.hid (Room_yes HR.out.are HRq.out)
                  have hops : d.ops < 999999 := by have := HG.out.2.2.2.2; omega
                  have HCA : Hid (cl ((cs (z % k) : Nat) : Int) = cs (z % k)) := Lib.hid (by rw [HCS.out]; exact cl_again ⟨_, HZ.out _⟩)
                  clear hp hgc hp1 hp2
                  go_wp2_with fail
                  refine HRoom.out.mono ?_
                  rintro e w4 ⟨rfl, rfl⟩
                  go_wp2_with fail
                  refine (Give_ok a bb rm gm d (lv cs (z % k)) (cs (z % k)) wr HR.out.are HRq.out (by omega)).mono ?_
                  rintro e w4 ⟨v, rfl, h4, f4, hv⟩
                  have HR4 := Lib.hid (HR.out.give h4 f4 hv)
                  have HP4 : Hid (Pls w4 B (.slice (some ⟨g, 0, none⟩) k cap) k (lv cs)) := Lib.hid (HP.out.give (p := 0) HR.out.are (fun c hc => absurd (HG.out.2.2.2.1 c) hc) f4 (fun h0 A' cap' e' g' eg => by
                    have := HNE.out h0 A' cap' e' g' eg
                    exact ⟨fun q => this (.inl q), fun q => this (.inr (.inr (.inl q))), fun q => this (.inr (.inr (.inr q)))⟩))
                  have HGq : Hid ((d.give (lv cs (z % k)) (cs (z % k)) v).G (cl ((cs (z % k) : Nat) : Int)) = [] ++ [lv cs (z % k)]) := Lib.hid (by
                    rw [HCA.out]
                    simp only [Ad.give, if_pos]
                    rw [HG.out.2.2.2.1])
                  clear h4 f4 hv d0 d1
                  go_wp2_with fail
                  refine (Take_given a bb rm gm (d.give (lv cs (z % k)) (cs (z % k)) v) ((cs (z % k) : Nat) : Int) [] (lv cs (z % k)) w4 HR4.out.are (by omega) (by omega) HGq.out (by show d.ops + 1 < _; omega)).mono ?_
                  rintro e w5 ⟨v2, rfl, h5, f5, hv5⟩
                  have HR5 := HR4.out.takeG HGq.out h5 f5 hv5
                  rw [HCA.out] at HR5
                  have HR5 := Lib.hid HR5
                  have HP5 : Hid (Pls w5 B (.slice (some ⟨g, 0, none⟩) k cap) k (lv cs)) := Lib.hid (HP4.out.fr f5 (fun h0 A' cap' e' g' eg => HNE.out h0 A' cap' e' g' eg))
                  have HG5 : Hid (∀ d5, d5 = ((d.give (lv cs (z % k)) (cs (z % k)) v).pop (cs (z % k)) [] v2).take (lv cs (z % k)) (cs (z % k)) → d5.sz = 6000 ∧ d5.height = lv cs k ∧ (∀ j, j < k → d5.R (lv cs j) = some (cs j)) ∧ (∀ c, d5.G c = []) ∧ d5.ops ≤ 30 + 2 * (jj + 1) ∧ d5.mem = zeroM d.mem (lv cs (z % k)) (cs (z % k))) := Lib.hid (by
                    rintro d5 rfl
                    refine ⟨HG.out.1, HG.out.2.1, fun j hj => ?_, fun c => ?_, by show d.ops + 1 + 1 ≤ _; have := HG.out.2.2.2.2; omega, rfl⟩
                    · by_cases e : j = z % k
                      · rw [e]; simp [Ad.take]
                      · simp only [Ad.take, Ad.pop, Ad.give, if_neg (lv_inj H16.out e)]
                        exact HG.out.2.2.1 j hj
                    · by_cases e : c = cs (z % k)
                      · simp [Ad.take, Ad.pop, e]
                      · simp only [Ad.take, Ad.pop, Ad.give, if_neg e]
                        exact HG.out.2.2.2.1 c)
                  have hml : d.mem.length = 6000 := by rw [HR.out.are.len, HG.out.1]
                  have HML := Lib.hid hml
                  clear h5 f5 hv5 hml
                  obtain ⟨d5, hd5⟩ : ∃ d5, d5 = ((d.give (lv cs (z % k)) (cs (z % k)) v).pop (cs (z % k)) [] v2).take (lv cs (z % k)) (cs (z % k)) := ⟨_, rfl⟩
                  have HG6 := Lib.hid (HG5.out d5 hd5)
                  rw [← hd5] at HR5
                  clear HG5 hd5
                  go_wp2_with fail
                  refine (Bytes_ok a bb rm gm d5 (lv cs (z % k)) (cs (z % k)) w5 HR5.out.are (by omega) (by rw [HG6.out.1]; omega)).mono ?_
                  rintro e w6 ⟨b6, rfl, hby, hb6⟩
                  rw [HG6.out.2.2.2.2.2, zeroM_in (by rw [HML.out]; omega)] at hby
                  have HR6 := Lib.hid (HR5.out.mv hb6)
                  have HP6 : Hid (Pls w6 B (.slice (some ⟨g, 0, none⟩) k cap) k (lv cs)) := Lib.hid (HP5.out.fr (Fr.of_below (S := fun _ => False) hb6) (fun _ _ _ _ _ _ e => e))
                  have HG7 : Hid (d5.sz = 6000 ∧ d5.height = lv cs k ∧ (∀ j, j < k → d5.R (lv cs j) = some (cs j)) ∧ (∀ c, d5.G c = []) ∧ d5.ops ≤ 30 + 2 * (jj + 1)) := Lib.hid ⟨HG6.out.1, HG6.out.2.1, HG6.out.2.2.1, HG6.out.2.2.2.1, HG6.out.2.2.2.2.1⟩
                  have HY := Lib.hid hby
                  have d6 : w6.cell? ⟨g, z % k, none⟩ = some (.int .i64 ((lv cs (z % k) : Nat) : Int)) := by
                    obtain ⟨A', cap', e', _, _, hp⟩ := HP6.out
                    obtain ⟨g', hgA, _, _, hgc⟩ := hp hk0
                    injection e' with e1 e2 e3
                    rw [hgA] at e1
                    injection e1 with e1
                    injection e1 with e1
                    subst e1
                    exact hgc _ hq
                  have haa : ∀ x : Int, (x != x) = false := by simp
                  have hbb : ∀ x : Nat, (x != x) = false := by simp
                  clear hby hb6
                  go_wp2_with fail
                  go_loop [29] (fun x => ∃ q : Nat, q ≤ cs (z % k) ∧ x = .int .i64 q) (fun x => cs (z % k) - (intOf x).toNat)
                  case atStart => exact ⟨0, Nat.zero_le _, rfl⟩
                  case round =>
                    obtain ⟨q, hq3, rfl⟩ := hrel
                    by_cases hq2 : q < cs (z % k)
                    · obtain ⟨b', off', e', _, hcell⟩ := HY.out.2.2.2.2 (by omega)
                      injection e' with e'
                      injection e' with e1 e2
                      subst e1
                      subst e2
                      have hc := hcell q hq2
                      rw [Nat.zero_add, List.getD_eq_getElem?_getD, List.getElem?_replicate, if_pos hq2] at hc
                      have hc' : w6.cell? ⟨b6, q, none⟩ = some (.int .u8 0) := hc
                      clear hcell hc
                      go_wp2_with fail
                      go_round
                      case rel => exact ⟨q + 1, by omega, by go_num⟩
                      case measure => simp [intOf]; omega
                    · go_wp2_with fail
                      go_roundw
                      case rel => first | exact ⟨jj + 1, by omega, by go_num, d5, HR6, HG7, HP6⟩ | ((repeat apply Exists.intro); exact ⟨⟨jj + 1, by omega, by go_num, d5, HR6, HG7, HP6⟩, rfl⟩)
                      case measure => simp [intOf]; omega
                · have hex : len1 ≤ jj ∨ (jj < len1 ∧ k ≤ 0) := by omega
                  clear hlt
                  rcases hex with h | ⟨h, h'⟩
                  all_goals
                    go_wp2_with fail
                    go_ret
                    exact ⟨rfl, HR.out.bel⟩

set_option maxRecDepth 100000 in
theorem arenaApart_lifted (os : Os) (started : os.Started) (H : Type) (enc : TypeId × Value → H) :
    ReturnsInHanded {} Try.checked os 9 .any (Rows.arenaApartSpec.pre6 enc Try.prog Try.f9 Rows.arenaApartRow.domain false) (Rows.arenaApartSpec.post enc Try.prog Try.f9 false true false false) := by
  refine returnsInHanded_of_change (C := Try.checked) Try.own started (by kernel_rfl) Try.func9
    (ChangeSpec.witness6 (enc := enc) (C := Try.checked) false ⟨#[], #[.slice none 0 0, .slice none 0 0], []⟩ 8 (by kernel_rfl) (by kernel_rfl) (by kernel_rfl) (by kernel_rfl)) ?_
  intro W base args ds gs before hval0 hW hcnd _
  have hval : ∀ (j : Nat) t v, Try.f9.params[j]? = some t → args[j]? = some v → Value.okWide Try.prog W .any base t v := hval0
  have hW' := hW
  obtain ⟨p, q, hA0, hV, rfl, hfz, hnd⟩ := hW
  have hA : DataW.TrodAll enc Try.prog W 0 (fun _ => true) true Try.f9.params.toList args.toList ds p := hA0
  rw [Try.params9] at hA hval
  obtain ⟨v0, vs0, d0, ds0, p0, q0, hargs, rfl, rfl, h0, r0⟩ := trodAll_cons hA
  obtain ⟨v1, vs1, d1, ds1, p1, q1, rfl, rfl, rfl, h1, r1⟩ := trodAll_cons r0
  obtain ⟨rfl, rfl, rfl⟩ := trodAll_nil r1
  obtain rfl : args = #[v0, v1] := by cases args; simp_all
  obtain ⟨rfl, rfl⟩ := trodVars_none hV
  obtain ⟨a0, len0, cap0, rfl⟩ := okWide_slice Try.underlying37 (hval 0 37 v0 rfl rfl)
  have k0 := h0
  have lt0 : ∀ x ∈ p0, x.block < W.heap.size := by obtain ⟨m, hm⟩ := k0; exact DataW.trod_lt m _ _ _ hm
  obtain ⟨z0, w0⟩ : ∃ zs, IsRow .u8 W a0 len0 cap0 zs := by
    obtain ⟨fuel, hf⟩ := h0
    rcases open_ints Try.underlying37 Try.underlying5 (by kernel_rfl) hf with ⟨hcs, _⟩ | ⟨x, l, c, zs, hcs, _, hl, hm, hz, _, hcell, hwz⟩
    · simp [Value.cells] at hcs
      obtain ⟨rfl, rfl, rfl⟩ := hcs
      exact ⟨[], .inl ⟨rfl, rfl, rfl, rfl⟩⟩
    · simp [Value.cells] at hcs
      obtain ⟨rfl, rfl, rfl⟩ := hcs
      exact ⟨zs, .inr ⟨_, rfl, hl, hm, by simpa using hz, hcell, hwz⟩⟩
  obtain ⟨a1, len1, cap1, rfl⟩ := okWide_slice Try.underlying37 (hval 1 37 v1 rfl rfl)
  have k1 := h1
  have lt1 : ∀ x ∈ p1, x.block < W.heap.size := by obtain ⟨m, hm⟩ := k1; exact DataW.trod_lt m _ _ _ hm
  obtain ⟨z1, w1⟩ : ∃ zs, IsRow .u8 W a1 len1 cap1 zs := by
    obtain ⟨fuel, hf⟩ := h1
    rcases open_ints Try.underlying37 Try.underlying5 (by kernel_rfl) hf with ⟨hcs, _⟩ | ⟨x, l, c, zs, hcs, _, hl, hm, hz, _, hcell, hwz⟩
    · simp [Value.cells] at hcs
      obtain ⟨rfl, rfl, rfl⟩ := hcs
      exact ⟨[], .inl ⟨rfl, rfl, rfl, rfl⟩⟩
    · simp [Value.cells] at hcs
      obtain ⟨rfl, rfl, rfl⟩ := hcs
      exact ⟨zs, .inr ⟨_, rfl, hl, hm, by simpa using hz, hcell, hwz⟩⟩
  clear hA0 hval0
  refine (arenaApart_walk a0 len0 cap0 z0 a1 len1 cap1 z1 W w0 w1).mono fun e W' ⟨he, bel⟩ => ?_
  subst he
  exact ⟨_, rfl, _, _, _, [], _, [], hW', trodAll_mk1 (shut_bool Try.underlying4 _), (trodAll_cons_mk (Below.trod Try.laidOut (by kernel_rfl) (of_decide_eq_true (by kernel_rfl)) k0 bel lt0) (trodAll_cons_mk (Below.trod Try.laidOut (by kernel_rfl) (of_decide_eq_true (by kernel_rfl)) k1 bel lt1) trodAll_mk0)), rfl, bel.frame _, fun h => by cases h⟩

theorem arenaApart_over : Rows.arenaApartRow.holds Try.pinned (OpenSpec.ofChange Rows.arenaApartSpec) :=
  OpenClaim.holds_of_wide 9 Try.f9 rfl rfl rfl rfl rfl rfl rfl ⟨rfl, rfl, rfl, rfl, rfl⟩ rfl rfl rfl rfl rfl (by kernel_rfl) Try.func9 (by kernel_rfl)
    (of_decide_eq_true (by kernel_rfl)) (by unfold Func.isWrapper; first | (rw [if_pos (by decide +kernel)]; kernel_rfl) | (rw [if_neg (by decide +kernel)]; exact ⟨rfl, rfl⟩))
    (fun os started H enc _ => arenaApart_lifted os started H enc)

theorem arenaApart_proved : Rows.ArenaApartSaid := arenaApart_over
#print axioms arenaApart_proved
end Go.Proofs.Ytmphpdonpaefpaa
