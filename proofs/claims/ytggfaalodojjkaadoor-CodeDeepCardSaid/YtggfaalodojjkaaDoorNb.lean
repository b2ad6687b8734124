/-
  code's nest: begin.
-/
import Derived.Test.YtggfaalodojjkaaDoorNa
import Derived.Deep.DeepCutAuto
namespace Go.Proofs.YtggfaalodojjkaaDoor
open Go.RowKit
set_option linter.unusedVariables false
set_option linter.unusedSimpArgs false
def NsP (B b : Nat) (n : Ne) (r : Int) (w : World) (e : Ending) (w' : World) : Prop := e = .returned (.int .i64 r) ∧ ∃ sv ov, Nst B w' b n sv ov ∧ Fr (fun k => B ≤ k) w w'
theorem Nst.ne_s {B b : Nat} {w : World} {n : Ne} {sv ov : Value} (h : Nst B w b n sv ov) (k : Nat) (hk : sv.ownBlock = some k) : k ≠ b ∧ B ≤ k := by
  obtain ⟨cs, hc⟩ := own_ty h.sr hk
  exact ⟨hc.ne_ h.blk (by decide), (h.sr.lt k hk).1⟩
theorem Nst.ne_o {B b : Nat} {w : World} {n : Ne} {sv ov : Value} (h : Nst B w b n sv ov) (k : Nat) (hk : ov.ownBlock = some k) : k ≠ b ∧ B ≤ k := by
  obtain ⟨cs, hc⟩ := own_ty h.orr hk
  exact ⟨hc.ne_ h.blk (by decide), (h.orr.lt k hk).1⟩
theorem Nst.ne_so {B b : Nat} {w : World} {n : Ne} {sv ov : Value} (h : Nst B w b n sv ov) (k : Nat) (hk : sv.ownBlock = some k) : ov.ownBlock ≠ some k := fun hk2 => by
  obtain ⟨cs, hc⟩ := own_ty h.sr hk
  obtain ⟨cs2, hc2⟩ := own_ty h.orr hk2
  exact hc.ne_ hc2 (by decide) rfl
/-- one that is opened more -/
theorem Nst.open_ {B b : Nat} {w w3 : World} {n : Ne} {sv ov v1 : Value} {op : List (Nat × Bool)} (h : Nst B w b n sv ov) (hf : Fr (fun k => ov.ownBlock = some k) w w3) (ho : w3.ownsRow B 158 2 v1 op.length (opC op)) (hl : op.length ≤ 64) :
    Nst B (w3.setCell ⟨b, 2, none⟩ v1) b { n with op := op } sv v1 ∧ Fr (fun k => B ≤ k) w (w3.setCell ⟨b, 2, none⟩ v1) := by
  have hb3 : Blk w3 b 58 #[.int .i64 n.pos, sv, ov, .int .i64 n.dp, .bool n.cl] := h.blk.fr hf (fun e => (h.ne_o b e).1 rfl)
  have hs : Fr (fun k => k = b) w3 (w3.setCell ⟨b, 2, none⟩ v1) := (Fr.refl (fun k => k = b) w3).set_ (p := ⟨b, 2, none⟩) rfl _
  refine ⟨⟨hb3.set_ 2 v1, h.hb, own_fr (own_fr h.sr hf (fun k hk e => h.ne_so k hk e)) hs (fun k hk e => (h.ne_s k hk).1 e), own_fr ho hs (fun k hk e => ?_), h.pl, h.sl, hl, h.dl⟩, (hf.more (fun k hk => (h.ne_o k hk).2)).trans (hs.more (fun k hk => by rw [hk]; exact h.hb))⟩
  obtain ⟨cs, hc⟩ := own_ty ho hk
  exact hc.ne_ hb3 (by decide) e
/-- one span more -/
theorem Nst.span_ {B b : Nat} {w w3 : World} {n : Ne} {sv ov v1 : Value} {sp : List (Nat × Int × Nat)} (h : Nst B w b n sv ov) (hf : Fr (fun k => sv.ownBlock = some k) w w3) (ho : w3.ownsRow B 48 3 v1 sp.length (spC sp)) (hl : sp.length ≤ 100001) :
    Nst B (w3.setCell ⟨b, 1, none⟩ v1) b { n with sp := sp } v1 ov ∧ Fr (fun k => B ≤ k) w (w3.setCell ⟨b, 1, none⟩ v1) := by
  have hb3 : Blk w3 b 58 #[.int .i64 n.pos, sv, ov, .int .i64 n.dp, .bool n.cl] := h.blk.fr hf (fun e => (h.ne_s b e).1 rfl)
  have hs : Fr (fun k => k = b) w3 (w3.setCell ⟨b, 1, none⟩ v1) := (Fr.refl (fun k => k = b) w3).set_ (p := ⟨b, 1, none⟩) rfl _
  refine ⟨⟨hb3.set_ 1 v1, h.hb, own_fr ho hs (fun k hk e => ?_), own_fr (own_fr h.orr hf (fun k hk e => h.ne_so k e hk)) hs (fun k hk e => (h.ne_o k hk).1 e), h.pl, hl, h.ol, h.dl⟩, (hf.more (fun k hk => (h.ne_s k hk).2)).trans (hs.more (fun k hk => by rw [hk]; exact h.hb))⟩
  obtain ⟨cs, hc⟩ := own_ty ho hk
  exact hc.ne_ hb3 (by decide) e
theorem Nst.drew {B b : Nat} {w : World} {n : Ne} {sv ov : Value} (h : Nst B w b n sv ov) : Nst B w.drew b n sv ov := ⟨h.blk, h.hb, h.sr, h.orr, h.pl, h.sl, h.ol, h.dl⟩
/-- a number of its own turned -/
theorem Nst.deep_ {B b : Nat} {w : World} {n : Ne} {sv ov : Value} (h : Nst B w b n sv ov) (d : Nat) (hd : d ≤ 64) :
    Nst B (w.setCell ⟨b, 3, none⟩ (.int .i64 d)) b { n with dp := d } sv ov ∧ Fr (fun k => B ≤ k) w (w.setCell ⟨b, 3, none⟩ (.int .i64 d)) := by
  have hs : Fr (fun k => k = b) w (w.setCell ⟨b, 3, none⟩ (.int .i64 d)) := (Fr.refl (fun k => k = b) w).set_ (p := ⟨b, 3, none⟩) rfl _
  exact ⟨⟨h.blk.set_ 3 _, h.hb, own_fr h.sr hs (fun k hk e => (h.ne_s k hk).1 e), own_fr h.orr hs (fun k hk e => (h.ne_o k hk).1 e), h.pl, h.sl, h.ol, hd⟩, hs.more (fun k hk => by rw [hk]; exact h.hb)⟩
set_option maxHeartbeats 4000000 in
set_option maxRecDepth 100000 in
theorem begin_ok (B b : Nat) (n : Ne) (sv ov : Value) (pt : Bool) (w : World) (h : Nst B w b n sv ov) (h64 : n.op.length < 64) (hs : n.sp.length ≤ 100000) (hBw : B ≤ w.heap.size) :
    Calls Tryd.prog 57 #[.pointer (some ⟨b, 0, none⟩), .bool pt] w (NsP B b { n with op := n.op ++ [(n.sp.length, pt)], sp := n.sp ++ [(n.pos, -1, 0)], dp := max n.dp (n.op.length + 1) } 0 w) := by
  obtain ⟨i4, hi4, hz4, hz5, hz6⟩ := info_parts info158
  obtain ⟨i3, hi3, hy4, hy5, hy6⟩ := info_parts info48
  have x0 := h.blk.cell 0
  have x1 := h.blk.cell 1
  have x2 := h.blk.cell 2
  have x3 := h.blk.cell 3
  obtain ⟨A, c, rfl⟩ := own_slice h.orr
  obtain ⟨A2, c2, rfl⟩ := own_slice h.sr
  have e1 : ((n.op.length : Int) == 64) = false := by rw [beq_eq_false_iff_ne]; omega
  obtain ⟨g, cap, w3, hap, hown, hf⟩ := app_one B 56 158 2 16 i4 _ Tryd.underlying56 hi4 hz4 hz5 hz6 rfl (by decide) w _ _ _ h.orr [.int .i64 (n.sp.length : Nat), .bool pt] rfl (by intro u hu; simp at hu; rcases hu with rfl | rfl <;> rfl) (by omega) (by decide) hBw
  have ho : w3.ownsRow B 158 2 (.slice (some ⟨g, 0, none⟩) (n.op.length + 1) cap) (n.op ++ [(n.sp.length, pt)]).length (opC (n.op ++ [(n.sp.length, pt)])) := by
    rw [List.length_append, opC_app]; exact hown
  obtain ⟨hN4, hF4⟩ := h.open_ hf ho (by simp; omega)
  have hb3 : Blk w3 b 58 #[.int .i64 n.pos, .slice A2 n.sp.length c2, .slice A n.op.length c, .int .i64 n.dp, .bool n.cl] := h.blk.fr hf (fun e => (h.ne_o b e).1 rfl)
  have y0 := hb3.cell 2
  have y1 := hb3.frozen 2
  have x2a : (w.alloc (Obj.cells #[Value.int .i64 (n.sp.length : Nat), Value.bool pt] 158)).cell? ⟨b, 2, none⟩ = some (.slice A n.op.length c) := (h.blk.alloc _).cell 2
  have HAP := Lib.hid hap
  have HN4 := Lib.hid hN4
  have HF4 := Lib.hid hF4
  have HB4 : Hid (B ≤ (w3.setCell ⟨b, 2, none⟩ (.slice (some ⟨g, 0, none⟩) (n.op.length + 1) cap)).heap.size) := Lib.hid (Nat.le_trans hBw hF4.size)
  clear hN4 hF4 hap hown hf ho hb3 h
  go_enter Tryd.func57, Tryd.ntmps57
  go_upto_region 3 with fail
  go_cut [24] (fun s24 wx => wx = w3.setCell ⟨b, 2, none⟩ (.slice (some ⟨g, 0, none⟩) (n.op.length + 1) cap))
  case first =>
    go_region_law (refine step_append_run rfl (.tmp 15) (.tmp 23) 56 rfl (.slice A n.op.length c) (.slice (some ⟨w.heap.size, 0, none⟩) 1 1) (.slice (some ⟨g, 0, none⟩) (n.op.length + 1) cap) w3 rfl rfl HAP ?_)
    all_goals (go_wp2_with fail; go_meet; exact rfl)
  case rest =>
    clear x0 x1 x2 x3 x2a y0 y1 HAP
    have hN4 := HN4.out
    rw [← hcut] at hN4
    have HF5 := HF4.out
    rw [← hcut] at HF5
    have HB5 := HB4.out
    rw [← hcut] at HB5
    clear HN4 HF4 HB4 hcut
    have HF5 := Lib.hid HF5
    have x0 := hN4.blk.cell 0
    have x1 := hN4.blk.cell 1
    obtain ⟨g2, cap2, w5, hap, hown, hf⟩ := app_one B 43 48 3 24 i3 _ Tryd.underlying43 hi3 hy4 hy5 hy6 rfl (by decide) wc _ _ _ hN4.sr [.int .i64 (n.pos : Nat), .int .i64 (-1), .int .i64 0] rfl (by intro u hu; simp at hu; rcases hu with rfl | rfl | rfl <;> rfl) (by show n.sp.length ≤ 200000; omega) (by decide) HB5
    have ho : w5.ownsRow B 48 3 (.slice (some ⟨g2, 0, none⟩) (n.sp.length + 1) cap2) (n.sp ++ [(n.pos, (-1 : Int), 0)]).length (spC (n.sp ++ [(n.pos, (-1 : Int), 0)])) := by
      rw [List.length_append, spC_app]; exact hown
    obtain ⟨hN6, hF6⟩ := hN4.span_ hf ho (by simp; omega)
    have hb5 : Blk w5 b 58 _ := hN4.blk.fr hf (fun e => (hN4.ne_s b e).1 rfl)
    have y0 := hb5.cell 1
    have y1 := hb5.frozen 1
    have x1a : (wc.alloc (Obj.cells #[Value.int .i64 (n.pos : Nat), Value.int .i64 (-1), Value.int .i64 0] 48)).cell? ⟨b, 1, none⟩ = some (.slice A2 n.sp.length c2) := (hN4.blk.alloc _).cell 1
    have x0a : (wc.alloc (Obj.cells #[Value.int .i64 (n.pos : Nat), Value.int .i64 (-1), Value.int .i64 0] 48)).cell? ⟨b, 0, none⟩ = some (.int .i64 n.pos) := (hN4.blk.alloc _).cell 0
    have HAP := Lib.hid hap
    have HN6 := Lib.hid hN6
    have HF7 := Lib.hid (HF5.out.trans hF6)
    clear hN6 hF6 hap hown hf ho hb5 hN4 HF5 HB5
    go_upto_region 4 with fail
    go_cut [38] (fun s38 wx => wx = w5.setCell ⟨b, 1, none⟩ (.slice (some ⟨g2, 0, none⟩) (n.sp.length + 1) cap2))
    case first =>
      go_region_law (refine step_append_run rfl (.tmp 31) (.tmp 37) 43 rfl (.slice A2 n.sp.length c2) (.slice (some ⟨wc.heap.size, 0, none⟩) 1 1) (.slice (some ⟨g2, 0, none⟩) (n.sp.length + 1) cap2) w5 rfl rfl HAP ?_)
      all_goals (go_wp2_with fail; go_meet; exact rfl)
    case rest =>
      clear x0 x1 x0a x1a y0 y1 HAP
      have hN8 := HN6.out
      rw [← hcut] at hN8
      have HF8 := HF7.out
      rw [← hcut] at HF8
      clear HN6 HF7 hcut
      have HF8 := Lib.hid HF8
      have x2 := hN8.blk.cell 2
      have x3 := hN8.blk.cell 3
      have z3 := hN8.blk.frozen 3
      have hd := hN8.dl
      have hd2 : n.dp ≤ 64 := hd
      have HN8 := Lib.hid hN8
      clear hN8 hd
      by_cases hm : n.dp ≤ n.op.length + 1
      · have HE : Hid (max n.dp (n.op.length + 1) = n.op.length + 1) := Lib.hid (by omega)
        go_wp2_with fail
        all_goals go_region
        all_goals go_wp2
        all_goals
          have k : Nst B (wc.setCell ⟨b, 3, none⟩ (.int .i64 ((n.op.length : Int) + 1))) b _ _ _ ∧ Fr (fun k => B ≤ k) wc (wc.setCell ⟨b, 3, none⟩ (.int .i64 ((n.op.length : Int) + 1))) := HN8.out.deep_ (n.op.length + 1) (by omega)
          have k9 := HN8.out.deep_ n.dp hd2
          have e9 : ∀ h : n.dp = n.op.length + 1, n.op.length + 1 = n.dp := fun h => h.symm
          go_ret
          first
            | exact ⟨rfl, _, _, (by first | exact k.1.drew | (rw [HE.out]; exact k.1.drew)), HF8.out.trans k.2.drew⟩
            | (have e8 : n.op.length + 1 = n.dp := by omega
               rw [e8]
               exact ⟨rfl, _, _, k9.1.drew, HF8.out.trans k9.2.drew⟩)
      · have HE : Hid (max n.dp (n.op.length + 1) = n.dp) := Lib.hid (by omega)
        go_wp2_with fail
        all_goals go_region
        all_goals
          go_wp2
          go_ret
          have k := HN8.out.deep_ n.dp hd2
          exact ⟨rfl, _, _, (by first | exact k.1.drew | (rw [HE.out]; exact k.1.drew)), HF8.out.trans k.2.drew⟩
end Go.Proofs.YtggfaalodojjkaaDoor
