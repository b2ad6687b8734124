/-
  OpOwn's walk.
-/
import Derived.Test.YtalpkdnnclghaaaDoorOo
import Derived.Outline
namespace Go.Proofs.YtalpkdnnclghaaaDoor
open Go.RowKit Go.ChangeShapes Go.WideShapes Go.ChangeAt
set_option linter.unusedVariables false
set_option linter.unusedSimpArgs false
theorem giv_of {w : World} {B B' : Nat} {A : Option Addr} {c : Nat} {xs : List Value} (ho : w.ownsRow B 57 5 (.slice A 111 c) 111 xs) (hx : Infs w B' OPS xs) (hB : B' = B) : ∃ gl, A = some ⟨gl, 0, none⟩ ∧ B ≤ gl ∧ (∃ cur, Blk w gl 57 cur) ∧ GivA w B gl := by
  subst hB
  rcases ho.2 with ⟨_, h⟩ | ⟨g2, cap, cur, e, hBg, hg, hn, hm, hs, ht⟩
  · omega
  · injection e with e1 e2 e3
    subst e1; subst e3
    refine ⟨g2, rfl, hBg, ⟨cur, hg⟩, fun k r i hk => ?_⟩
    have hk9 : k < 111 := by rw [← OPS_length]; exact (List.getElem?_eq_some_iff.1 hk).1
    obtain ⟨At, ct, Ag, cg, hj, _, h2⟩ := hx.at k r i hk
    refine ⟨Ag, cg, ?_, ⟨_, h2⟩⟩
    rw [ho.cellAt (k * 5 + 4) (by omega), hj 4 (by omega)]
    rfl
def TkP (tl gl : List Nat) (w : World) (e : Ending) (w' : World) : Prop := ∃ vt vg, e = .returned (.tuple #[vt, vg]) ∧ w'.ownsRow w.heap.size 5 1 vt tl.length (tl.map U8) ∧ w'.ownsRow w.heap.size 5 1 vg gl.length (gl.map U8) ∧ Below w.heap.size w w'
set_option maxHeartbeats 8000000 in
set_option maxRecDepth 100000 in
theorem own_gen (a : Int) (ok : Bool) (c1 : Int) (s1 : ByteArray) (f1 : Int) (tl1 gl1 tl gl : List Nat) (w : World) (hT : Tb w) (hl1 : tl1.length ≤ 3) (hl2 : gl1.length ≤ 3) (hx1 : ∀ x ∈ tl1, x < 256) (hx2 : ∀ x ∈ gl1, x < 256)
    (hA : ∀ W, Tb W → Calls Tryd.prog 31 #[.int .i64 a] W (FFlat ⟨ok, c1, s1, f1, tl1, gl1⟩ W))
    (hK : ∀ W, Calls Tryd.prog 38 #[.int .i64 a] W (TkP tl gl W))
    (h1 : s1 = ⟨#[]⟩ ∨ (s1 ≠ ⟨#[]⟩ ∧ tl1 = tl ∧ gl1 = gl)) :
    Calls Tryd.prog 11 #[.int .i64 a] w fun e w' => e = .returned (.bool true) ∧ Below w.heap.size w w' := by
  have HA := Lib.hid hA
  have HK := Lib.hid hK
  have HL := Lib.hid All_any
  have HW := Lib.hid awake_any
  have HT := Lib.hid hT
  have H1 := Lib.hid h1
  have HX1 := Lib.hid hx1
  have HX2 := Lib.hid hx2
  clear hA hK hT h1 hx1 hx2
  go_enter Tryd.func11, Tryd.ntmps11
  go_wp2_with (first
    | (go_at_call 31; (with_reducible refine (HA.out _ HT.out).mono ?_); rintro e wa ⟨At, ct, Ag, cg, rfl, ho, hq, hb⟩
       have HO : Hid (Rowa wa w.heap.size At tl1.length ct) := Lib.hid ⟨_, ho⟩
       have HB := Lib.hid hb
       clear ho hq hb))
  generalize hwx : World.alloc wa _ = wx
  have HXB : Hid (Blk wx wa.heap.size 57 #[.int .i64 c1, .string s1, .int .i64 f1, .slice At tl1.length ct, .slice Ag gl1.length cg]) := Lib.hid (by rw [← hwx]; exact Blk.new _ _ _)
  have HB1 : Hid (Below w.heap.size w wx) := Lib.hid (by rw [← hwx]; exact HB.out.alloc HB.out.size _)
  have HO1 : Hid (Rowa wx w.heap.size At tl1.length ct) := Lib.hid (by rw [← hwx]; exact HO.out.kept ((Below.refl _ _).alloc (Nat.le_refl _) _))
  clear hwx HO HB
  go_loopw [5] (fun v5 wr => ∃ k : Nat, k ≤ tl1.length ∧ v5 = .int .i64 k ∧ Hid (Blk wr wa.heap.size 57 #[.int .i64 c1, .string s1, .int .i64 f1, .slice At tl1.length ct, .slice Ag gl1.length cg]) ∧ Hid (Rowa wr w.heap.size At tl1.length ct) ∧ Hid (Below w.heap.size w wr)) (fun v5 _ => tl1.length - (intOf v5).toNat)
  case atStart => exact ⟨0, by omega, rfl, HXB, HO1, HB1⟩
  case round =>
    obtain ⟨k, hk, rfl, HX, HO, HB⟩ := hrel
    obtain ⟨_, _, _, c3, _⟩ := blk5 HX.out
    by_cases hlt : k < tl1.length
    · obtain ⟨g, v, rfl, hBg, hcell, hfz, cur, hcur⟩ := HO.out.cell k hlt
      have HG : Hid (wa.heap.size ≠ g) := Lib.hid (fun e => Blk.ne_ HX.out hcur (by decide) e)
      have HX2 := Lib.hid (HX.out.far (p := ⟨g, k, none⟩) HG.out (.int .u8 0))
      have HO2 := Lib.hid (HO.out.set_ g k (.int .u8 0))
      have HB2 : Hid (Below w.heap.size w (wr.setCell ⟨g, k, none⟩ (.int .u8 0))) := Lib.hid (HB.out.setCell hBg _)
      clear hcur
      go_wp2_with fail
      go_roundw
      case rel => exact ⟨k + 1, by omega, by go_num, HX2, HO2, HB2⟩
      case measure => simp [intOf]; omega
    · obtain rfl : k = tl1.length := by omega
      have HT2 := Lib.hid (HT.out.below HB.out HT.out.size)
      go_wp2_with (first
        | (go_at_call 42; (with_reducible refine (HL.out _ HT2.out).mono ?_); rintro e w3 ⟨v, xs, rfl, ho, hx, hb⟩
           obtain ⟨Al, cl, rfl⟩ := own_slice ho
           obtain ⟨gl, rfl, hgl, hcur, hga⟩ := giv_of (own_base ho (Nat.le_refl _)) hx rfl
           have HGA : Hid (GivA w3 wr.heap.size gl) := Lib.hid hga
           have HGC := Lib.hid hcur
           have HB3 : Hid (Below w.heap.size w w3) := Lib.hid (HB.out.trans (hb.mono HB.out.size))
           have HZ3 : Hid (w.heap.size ≤ wr.heap.size) := Lib.hid HB.out.size
           clear ho hx hb hgl hcur hga))
      obtain ⟨B3, HB9⟩ : ∃ B3, Hid (B3 = wr.heap.size) := ⟨_, Lib.hid rfl⟩
      rw [← HB9.out] at HGA HZ3
      go_loopw [7] (fun v7 wq => ∃ i : Nat, i ≤ 111 ∧ v7 = .int .i64 i ∧ Hid (GivA wq B3 gl) ∧ Hid (∃ cur, Blk wq gl 57 cur) ∧ Hid (Below w.heap.size w wq)) (fun v7 _ => 111 - (intOf v7).toNat)
      case atStart => exact ⟨0, by omega, rfl, HGA, HGC, HB3⟩
      case round =>
        obtain ⟨i, hi, rfl, HGq, HCq, HBq⟩ := hrel
        by_cases hi2 : i < 111
        · obtain ⟨⟨r, j⟩, HR⟩ : ∃ q, Hid (OPS[i]? = some q) := ⟨_, Lib.hid (List.getElem?_eq_getElem (by rw [OPS_length]; exact hi2))⟩
          obtain ⟨gn, HGN⟩ : ∃ gn, Hid (gn = r.gives.length) := ⟨_, Lib.hid rfl⟩
          have hg3 : gn ≤ 3 := by rw [HGN.out]; exact (good_in (mem_OPS.1 (List.mem_of_getElem? HR.out)).1).g3
          go_wp2_with fail
          go_loopw [8] (fun v8 wq => ∃ k : Nat, k ≤ gn ∧ v8 = .int .i64 k ∧ Hid (GivA wq B3 gl) ∧ Hid (∃ cur, Blk wq gl 57 cur) ∧ Hid (Below w.heap.size w wq)) (fun v8 _ => gn - (intOf v8).toNat)
          case atStart => exact ⟨0, by omega, rfl, HGq, HCq, HBq⟩
          case round =>
            obtain ⟨k, hk, rfl, HGk, HCk, HBk⟩ := hrel
            obtain ⟨Ai, ci, h4, hrow⟩ := HGk.out i r j HR.out
            rw [← HGN.out] at h4 hrow
            by_cases hk2 : k < gn
            · obtain ⟨g, v, rfl, hBg, hcell, hfz, cur, hcur⟩ := hrow.cell k hk2
              have HNE : Hid (gl ≠ g) := Lib.hid (fun e => by obtain ⟨c2, hc2⟩ := HCk.out; exact Blk.ne_ hc2 hcur (by decide) e)
              have HG2 := Lib.hid (HGk.out.set_ HNE.out k (.int .u8 0))
              have HC2 : Hid (∃ cur, Blk (wr.setCell ⟨g, k, none⟩ (.int .u8 0)) gl 57 cur) := Lib.hid (by obtain ⟨c2, hc2⟩ := HCk.out; exact ⟨c2, hc2.far (p := ⟨g, k, none⟩) HNE.out _⟩)
              have HB2 : Hid (Below w.heap.size w (wr.setCell ⟨g, k, none⟩ (.int .u8 0))) := Lib.hid (HBk.out.setCell (Nat.le_trans HZ3.out hBg) _)
              clear hcur hrow
              go_wp2_with fail
              go_roundw
              case rel => exact ⟨k + 1, by omega, by go_num, HG2, HC2, HB2⟩
              case measure => simp [intOf]; omega
            · obtain rfl : k = gn := by omega
              clear hrow
              go_wp2_with fail
              go_roundw
              case rel => exact ⟨i + 1, by omega, by go_num, HGk, HCk, HBk⟩
              case measure => simp [intOf]; omega
        · obtain rfl : i = 111 := by omega
          have HTq := Lib.hid (HT.out.below HBq.out HT.out.size)
          rcases H1.out with h1 | ⟨h1, h2, h3⟩
          · subst h1
            go_wp2_with (first
            | (go_at_call 31; (with_reducible refine (HA.out _ HTq.out).mono ?_); rintro e wf ⟨Ay, cy, Ay2, cy2, rfl, hoy, hqy, hby⟩
               have HOY := Lib.hid hoy
               have HQY := Lib.hid hqy
               have HBY : Hid (Below w.heap.size w wf) := Lib.hid (HBq.out.trans (hby.mono HBq.out.size))
               clear hoy hqy hby)
            | (go_at_call 38; (with_reducible refine (HK.out _).mono ?_); rintro e wk ⟨vt, vg, rfl, hot, hog, hbk⟩
               obtain ⟨At9, ct9, rfl⟩ := own_slice hot
               obtain ⟨Ag9, cg9, rfl⟩ := own_slice hog
               have HBK : Hid (Below w.heap.size w wk) := Lib.hid ((HBY.out.alloc HBY.out.size _).trans (hbk.mono (HBY.out.alloc HBY.out.size _).size))
               obtain ⟨_, y1, _, y3, y4⟩ := blk5 ((Blk.new wf 57 #[.int .i64 c1, .string ⟨#[]⟩, .int .i64 f1, .slice Ay tl1.length cy, .slice Ay2 gl1.length cy2]).below hbk (by simp))
               clear hot hog hbk)
            | (go_at_call 37; (with_reducible refine (HW.out _ (HT.out.below HBK.out HT.out.size)).mono ?_); rintro e we ⟨rfl, hf⟩
               have HF : Hid (Below w.heap.size w we) := Lib.hid (HBK.out.trans (hf.mono HBK.out.size))
               clear hf))
            go_ret
            exact ⟨rfl, HF.out⟩
          · subst h2 h3
            have hs1 : (s1.toList == []) = false := by
              rw [ByteArray.toList_eq]
              rw [beq_eq_false_iff_ne]
              exact fun h => h1 (ba_ext h)
            have hs2 : s1.toList.isEmpty = false := by
              rw [ByteArray.toList_eq]
              rw [List.isEmpty_eq_false_iff]
              exact fun h => h1 (ba_ext h)
            have hs3 : ¬ s1.toList = [] := by
              rw [ByteArray.toList_eq]
              exact fun h => h1 (ba_ext h)
            clear h1
            go_wp2_with (first
            | (go_at_call 31; (with_reducible refine (HA.out _ HTq.out).mono ?_); rintro e wf ⟨Ay, cy, Ay2, cy2, rfl, hoy, hqy, hby⟩
               have HOY := Lib.hid hoy
               have HQY := Lib.hid hqy
               have HBY : Hid (Below w.heap.size w wf) := Lib.hid (HBq.out.trans (hby.mono HBq.out.size))
               clear hoy hqy hby)
            | (go_at_call 38; (with_reducible refine (HK.out _).mono ?_); rintro e wk ⟨vt, vg, rfl, hot, hog, hbk⟩
               obtain ⟨At9, ct9, rfl⟩ := own_slice hot
               obtain ⟨Ag9, cg9, rfl⟩ := own_slice hog
               have HBK : Hid (Below w.heap.size w wk) := Lib.hid ((HBY.out.alloc HBY.out.size _).trans (hbk.mono (HBY.out.alloc HBY.out.size _).size))
               obtain ⟨_, y1, _, y3, y4⟩ := blk5 ((Blk.new wf 57 #[.int .i64 c1, .string s1, .int .i64 f1, .slice Ay tl1.length cy, .slice Ay2 gl1.length cy2]).below hbk (by simp))
               have HY1 := Lib.hid (Byt.own (own_kept (HOY.out.alloc _) hbk) HX1.out)
               have HY2 := Lib.hid (Byt.own hot HX1.out)
               have HY3 := Lib.hid (Byt.own (own_kept (HQY.out.alloc _) hbk) HX2.out)
               have HY4 := Lib.hid (Byt.own hog HX2.out)
               have HS1 := Lib.hid (Same_any Ay At9 _ _ cy ct9 _ _ (by omega) (by omega) wk HY1.out HY2.out)
               have HS2 := Lib.hid (fun W (h : Below wk.heap.size wk W) => Same_any Ay2 Ag9 _ _ cy2 cg9 _ _ (by omega) (by omega) W (HY3.out.below h) (HY4.out.below h))
               rw [show decide (tl1 = tl1) = true by simp] at HS1
               simp only [show decide (gl1 = gl1) = true by simp] at HS2
               clear hot hog hbk)
            | (go_at_call 37; (with_reducible refine (HW.out _ (HT.out.below HBS.out HT.out.size)).mono ?_); rintro e we ⟨rfl, hf⟩
               have HF : Hid (Below w.heap.size w we) := Lib.hid (HBS.out.trans (hf.mono HBS.out.size))
               clear hf)
            | (go_at_call 40; (with_reducible refine HS1.out.mono ?_); rintro e ws ⟨rfl, hs⟩
               have HS1B := Lib.hid hs
               obtain ⟨g4, hg4⟩ : ∃ g4, g4 = hs := ⟨_, rfl⟩
               have y4' := (hs.cell (p := ⟨wf.heap.size, 4, none⟩) (lt_of_cell y4)).trans y4
               clear hg4 g4 hs)
            | (go_at_call 40; (with_reducible refine (HS2.out _ HS1B.out).mono ?_); rintro e ws2 ⟨rfl, hs⟩
               have HBS : Hid (Below w.heap.size w ws2) := Lib.hid ((HBK.out.trans (HS1B.out.mono HBK.out.size)).trans (hs.mono (HBK.out.trans (HS1B.out.mono HBK.out.size)).size))
               clear hs))
            go_ret
            exact ⟨rfl, HF.out⟩
end Go.Proofs.YtalpkdnnclghaaaDoor
