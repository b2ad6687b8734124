/-
  The law's To of a module.
-/
import Derived.Test.YtackompihengfaaFi
import Derived.Deep.RegionHeld3
import Derived.Deep.DeepCutAuto
namespace Go.Proofs.Ytackompihengfaa
open Go.RowKit
set_option linter.unusedVariables false
set_option linter.unusedSimpArgs false
set_option maxHeartbeats 8000000 in
set_option maxRecDepth 100000 in
theorem To13_ok (x : Mt) (w : World) (hx : MtAt w x) (hs : MtSm x) : Calls Try.prog 9 #[.agg x.cells] w fun e w' => Below w.heap.size w w' ∧ ∃ g sv fv SP SR LV IV S, e = .returned (.pointer (some ⟨g, 0, none⟩)) ∧ MdAt w' w.heap.size g x sv fv SP SR LV IV S := by
  obtain ⟨i0, hi, hz0, hz1, hz2⟩ := info_parts info42
  obtain ⟨j0, hj, hy0, hy1, hy2⟩ := info_parts info69
  obtain ⟨⟨A0, n0, c0⟩, X0, ⟨A1, n1, c1⟩, X1, ⟨A2, n2, c2⟩, X2, tab, ⟨A4, n4, c4⟩, X4, ⟨A5, n5, c5⟩, X5, ⟨A6, n6, c6⟩, X6, start, ⟨A8, n8, c8⟩, X8, ⟨A9, n9, c9⟩, X9⟩ := x
  have b0 := hs.n0
  have b2 := hs.n2
  have a0 := hx.r0.1
  have a2 := hx.r2.1
  have a02 := hx.r0.2.1
  have a22 := hx.r2.2.1
  have d0 := hs.l0
  have d2 := hs.l2
  have hb0 : Below w.heap.size w (w.alloc (.cells #[.slice A0 n0 c0, .slice A1 n1 c1, .slice A2 n2 c2, .int .i64 tab, .slice A4 n4 c4, .slice A5 n5 c5, .slice A6 n6 c6, .int .i64 start, .slice A8 n8 c8, .slice A9 n9 c9] 31)) := (Below.refl _ _).alloc (Nat.le_refl _) _
  have hb1 : Below w.heap.size w ((w.alloc (.cells #[.slice A0 n0 c0, .slice A1 n1 c1, .slice A2 n2 c2, .int .i64 tab, .slice A4 n4 c4, .slice A5 n5 c5, .slice A6 n6 c6, .int .i64 start, .slice A8 n8 c8, .slice A9 n9 c9] 31)).alloc (.cells #[.slice none 0 0, .slice A1 n1 c1, .slice none 0 0, .int .i64 tab, .slice A4 n4 c4, .slice A5 n5 c5, .slice A6 n6 c6, .int .i64 start, .slice A8 n8 c8, .slice A9 n9 c9] 73)) := hb0.alloc hb0.size _
  obtain ⟨W1, hW1⟩ : ∃ W, W = (w.alloc (.cells #[.slice A0 n0 c0, .slice A1 n1 c1, .slice A2 n2 c2, .int .i64 tab, .slice A4 n4 c4, .slice A5 n5 c5, .slice A6 n6 c6, .int .i64 start, .slice A8 n8 c8, .slice A9 n9 c9] 31)).alloc (.cells #[.slice none 0 0, .slice A1 n1 c1, .slice none 0 0, .int .i64 tab, .slice A4 n4 c4, .slice A5 n5 c5, .slice A6 n6 c6, .int .i64 start, .slice A8 n8 c8, .slice A9 n9 c9] 73) := ⟨_, rfl⟩
  rw [← hW1] at hb1
  have hx1 := hx.below hb1
  have hbx : Blk W1 w.heap.size 31 #[.slice A0 n0 c0, .slice A1 n1 c1, .slice A2 n2 c2, .int .i64 tab, .slice A4 n4 c4, .slice A5 n5 c5, .slice A6 n6 c6, .int .i64 start, .slice A8 n8 c8, .slice A9 n9 c9] := by rw [hW1]; exact (Blk.new w 31 _).alloc _
  have hbm : Blk W1 (w.heap.size + 1) 73 #[.slice none 0 0, .slice A1 n1 c1, .slice none 0 0, .int .i64 tab, .slice A4 n4 c4, .slice A5 n5 c5, .slice A6 n6 c6, .int .i64 start, .slice A8 n8 c8, .slice A9 n9 c9] := by
    rw [hW1]
    have := Blk.new (w.alloc (.cells #[.slice A0 n0 c0, .slice A1 n1 c1, .slice A2 n2 c2, .int .i64 tab, .slice A4 n4 c4, .slice A5 n5 c5, .slice A6 n6 c6, .int .i64 start, .slice A8 n8 c8, .slice A9 n9 c9] 31)) 73 #[.slice none 0 0, .slice A1 n1 c1, .slice none 0 0, .int .i64 tab, .slice A4 n4 c4, .slice A5 n5 c5, .slice A6 n6 c6, .int .i64 start, .slice A8 n8 c8, .slice A9 n9 c9]
    rw [World.size_alloc] at this
    exact this
  have HX := Lib.hid hx
  have HB0 := Lib.hid hb1
  have HBX := Lib.hid hbx
  have HBM := Lib.hid hbm
  have HD0 := Lib.hid d0
  have HD2 := Lib.hid d2
  have HW1 := Lib.hid hW1
  clear hx hs hb0 hb1 hx1 hbx hbm d0 d2 hW1
  unfold Mt.cells Sv.v
  unfold maxLen at a02 a22
  dsimp only at b0 b2 a0 a2 a02 a22 HD0 HD2 ⊢
  go_enter Try.func9, Try.ntmps9
  go_upto_region 2 with fail
  rw [← HW1.out]
  clear HW1
  go_wp2
  go_loopw [4] (fun v4 wr => ∃ (k : Nat) (v : Value) (SP SR : Nat → Value), k ≤ n0 ∧ v4 = .int .i64 k ∧ Hid (Blk wr (w.heap.size + 1) 73 #[v, .slice A1 n1 c1, .slice none 0 0, .int .i64 tab, .slice A4 n4 c4, .slice A5 n5 c5, .slice A6 n6 c6, .int .i64 start, .slice A8 n8 c8, .slice A9 n9 c9]) ∧ Hid (SgM wr w.heap.size v k X0 SP SR) ∧ Hid (Below w.heap.size w wr) ∧ Hid (Blk wr w.heap.size 31 #[.slice A0 n0 c0, .slice A1 n1 c1, .slice A2 n2 c2, .int .i64 tab, .slice A4 n4 c4, .slice A5 n5 c5, .slice A6 n6 c6, .int .i64 start, .slice A8 n8 c8, .slice A9 n9 c9])) (fun v4 _ => n0 - (intOf v4).toNat)
  case atStart => exact ⟨0, .slice none 0 0, fun _ => undef, fun _ => undef, Nat.zero_le _, rfl, HBM, Lib.hid ⟨World.ownsRow_nil _ _ _ _, fun i hi => by omega⟩, HB0, HBX⟩
  case round =>
    clear HBM HB0 HBX
    obtain ⟨k, v, SP, SR, hk, rfl, HM, HG, HB, HBX⟩ := hrel
    have xb := HBX.out.cell 0
    by_cases hlt : k < n0
    · obtain ⟨b, off, rfl, hbl, hat⟩ := HX.out.r0.2.2 (by show 0 < n0; omega)
      obtain ⟨Ap, cp, Aq, cq, y0, y1, hbp, hbq⟩ := sig_stay _ _ _ _ _ (hat k hlt) HB.out hbl
      have hdd := HD0.out k hlt
      have HGP : Hid ((X0 k).P.length + (X0 k).R.length ≤ 60) := Lib.hid hdd
      obtain ⟨lp, hlp⟩ : ∃ lp, lp = (X0 k).P := ⟨_, rfl⟩
      obtain ⟨lq, hlq⟩ : ∃ lq, lq = (X0 k).R := ⟨_, rfl⟩
      rw [← hlp] at y0 hbp hdd
      rw [← hlq] at y1 hbq hdd
      obtain ⟨p, hp⟩ : ∃ p, p = lp.length := ⟨_, rfl⟩
      obtain ⟨q, hq⟩ : ∃ q, q = lq.length := ⟨_, rfl⟩
      rw [← hp] at y0 hbp hdd
      rw [← hq] at y1 hbq hdd
      have hk0 : (fun W : World => W.cell? ⟨w.heap.size, 0, none⟩ = some (.slice (some ⟨b, off, none⟩) n0 c0) ∧ W.cell? ⟨b, off + k * 2, none⟩ = some (.slice Ap p cp) ∧ W.cell? ⟨b, off + k * 2 + 1, none⟩ = some (.slice Aq q cq)) wr.drew := ⟨xb, y0, y1⟩
      have hbD : Below w.heap.size w wr.drew := below_drew HB.out
      have hkeep : ∀ W W' : World, Blk W (w.heap.size + 1) 73 #[v, .slice A1 n1 c1, .slice none 0 0, .int .i64 tab, .slice A4 n4 c4, .slice A5 n5 c5, .slice A6 n6 c6, .int .i64 start, .slice A8 n8 c8, .slice A9 n9 c9] → Below w.heap.size w W → (fun W : World => W.cell? ⟨w.heap.size, 0, none⟩ = some (.slice (some ⟨b, off, none⟩) n0 c0) ∧ W.cell? ⟨b, off + k * 2, none⟩ = some (.slice Ap p cp) ∧ W.cell? ⟨b, off + k * 2 + 1, none⟩ = some (.slice Aq q cq)) W → Below W.heap.size W W' → (fun W : World => W.cell? ⟨w.heap.size, 0, none⟩ = some (.slice (some ⟨b, off, none⟩) n0 c0) ∧ W.cell? ⟨b, off + k * 2, none⟩ = some (.slice Ap p cp) ∧ W.cell? ⟨b, off + k * 2 + 1, none⟩ = some (.slice Aq q cq)) W' := fun W W' hM hW hS hb => by
        have l1 := hM.lt
        have l2 := hW.size
        exact ⟨(hb.cell (p := ⟨w.heap.size, 0, none⟩) (by show w.heap.size < _; omega)).trans hS.1, (hb.cell (p := ⟨b, off + k * 2, none⟩) (by show b < _; omega)).trans hS.2.1, (hb.cell (p := ⟨b, off + k * 2 + 1, none⟩) (by show b < _; omega)).trans hS.2.2⟩
      have M0 : Hid (Blk wr.drew (w.heap.size + 1) 73 #[v, .slice A1 n1 c1, .slice none 0 0, .int .i64 tab, .slice A4 n4 c4, .slice A5 n5 c5, .slice A6 n6 c6, .int .i64 start, .slice A8 n8 c8, .slice A9 n9 c9]) := HM
      have st1 : Hid (∀ w1, Below wr.drew.heap.size wr.drew w1 → (fun W : World => W.cell? ⟨w.heap.size, 0, none⟩ = some (.slice (some ⟨b, off, none⟩) n0 c0) ∧ W.cell? ⟨b, off + k * 2, none⟩ = some (.slice Ap p cp) ∧ W.cell? ⟨b, off + k * 2 + 1, none⟩ = some (.slice Aq q cq)) w1 ∧ Blk w1 (w.heap.size + 1) 73 #[v, .slice A1 n1 c1, .slice none 0 0, .int .i64 tab, .slice A4 n4 c4, .slice A5 n5 c5, .slice A6 n6 c6, .int .i64 start, .slice A8 n8 c8, .slice A9 n9 c9] ∧ SgM w1 w.heap.size v k X0 SP SR ∧ Below w.heap.size w w1 ∧ Byt w1 Aq q cq lq ∧ Blk w1 w.heap.size 31 #[.slice (some ⟨b, off, none⟩) n0 c0, .slice A1 n1 c1, .slice A2 n2 c2, .int .i64 tab, .slice A4 n4 c4, .slice A5 n5 c5, .slice A6 n6 c6, .int .i64 start, .slice A8 n8 c8, .slice A9 n9 c9]) := Lib.hid (fun w1 h =>
        ⟨hkeep _ _ M0.out hbD hk0 h, M0.out.below h M0.out.lt, HG.out.kept ((below_drew (Below.refl wr.heap.size wr)).trans h), hbD.trans (h.mono hbD.size), hbq.below ((below_drew (Below.refl wr.heap.size wr)).trans h), HBX.out.below ((below_drew (Below.refl wr.heap.size wr)).trans h) HBX.out.lt⟩)
      have st2 : Hid (∀ w1 w2, (fun W : World => W.cell? ⟨w.heap.size, 0, none⟩ = some (.slice (some ⟨b, off, none⟩) n0 c0) ∧ W.cell? ⟨b, off + k * 2, none⟩ = some (.slice Ap p cp) ∧ W.cell? ⟨b, off + k * 2 + 1, none⟩ = some (.slice Aq q cq)) w1 → Blk w1 (w.heap.size + 1) 73 #[v, .slice A1 n1 c1, .slice none 0 0, .int .i64 tab, .slice A4 n4 c4, .slice A5 n5 c5, .slice A6 n6 c6, .int .i64 start, .slice A8 n8 c8, .slice A9 n9 c9] → SgM w1 w.heap.size v k X0 SP SR → Below w.heap.size w w1 → Blk w1 w.heap.size 31 #[.slice (some ⟨b, off, none⟩) n0 c0, .slice A1 n1 c1, .slice A2 n2 c2, .int .i64 tab, .slice A4 n4 c4, .slice A5 n5 c5, .slice A6 n6 c6, .int .i64 start, .slice A8 n8 c8, .slice A9 n9 c9] → Below w1.heap.size w1 w2 → (fun W : World => W.cell? ⟨w.heap.size, 0, none⟩ = some (.slice (some ⟨b, off, none⟩) n0 c0) ∧ W.cell? ⟨b, off + k * 2, none⟩ = some (.slice Ap p cp) ∧ W.cell? ⟨b, off + k * 2 + 1, none⟩ = some (.slice Aq q cq)) w2 ∧ Blk w2 (w.heap.size + 1) 73 #[v, .slice A1 n1 c1, .slice none 0 0, .int .i64 tab, .slice A4 n4 c4, .slice A5 n5 c5, .slice A6 n6 c6, .int .i64 start, .slice A8 n8 c8, .slice A9 n9 c9] ∧ SgM w2 w.heap.size v k X0 SP SR ∧ Below w.heap.size w w2 ∧ Blk w2 w.heap.size 31 #[.slice (some ⟨b, off, none⟩) n0 c0, .slice A1 n1 c1, .slice A2 n2 c2, .int .i64 tab, .slice A4 n4 c4, .slice A5 n5 c5, .slice A6 n6 c6, .int .i64 start, .slice A8 n8 c8, .slice A9 n9 c9]) := Lib.hid (fun w1 w2 h1 h2 h3 h4 h5 h =>
        ⟨hkeep _ _ h2 h4 h1 h, h2.below h h2.lt, h3.kept h, h4.trans (h.mono h4.size), h5.below h h5.lt⟩)
      have st3 : Hid (∀ (w2 : World) (o : Obj), Blk w2 (w.heap.size + 1) 73 #[v, .slice A1 n1 c1, .slice none 0 0, .int .i64 tab, .slice A4 n4 c4, .slice A5 n5 c5, .slice A6 n6 c6, .int .i64 start, .slice A8 n8 c8, .slice A9 n9 c9] → Below w.heap.size w w2 → (fun W : World => W.cell? ⟨w.heap.size, 0, none⟩ = some (.slice (some ⟨b, off, none⟩) n0 c0) ∧ W.cell? ⟨b, off + k * 2, none⟩ = some (.slice Ap p cp) ∧ W.cell? ⟨b, off + k * 2 + 1, none⟩ = some (.slice Aq q cq)) w2 → (fun W : World => W.cell? ⟨w.heap.size, 0, none⟩ = some (.slice (some ⟨b, off, none⟩) n0 c0) ∧ W.cell? ⟨b, off + k * 2, none⟩ = some (.slice Ap p cp) ∧ W.cell? ⟨b, off + k * 2 + 1, none⟩ = some (.slice Aq q cq)) (w2.alloc o)) := Lib.hid (fun w2 o h1 h2 h3 => hkeep _ _ h1 h2 h3 ((Below.refl _ _).alloc (Nat.le_refl _) _))
      have st5 : Hid (∀ (w2 w3 : World) (B1 B2 : Option Addr) (d1 d2 g3 cap3 : Nat), Blk w2 (w.heap.size + 1) 73 #[v, .slice A1 n1 c1, .slice none 0 0, .int .i64 tab, .slice A4 n4 c4, .slice A5 n5 c5, .slice A6 n6 c6, .int .i64 start, .slice A8 n8 c8, .slice A9 n9 c9] → SgM w2 w.heap.size v k X0 SP SR → Below w.heap.size w w2 → Blk w2 w.heap.size 31 #[.slice (some ⟨b, off, none⟩) n0 c0, .slice A1 n1 c1, .slice A2 n2 c2, .int .i64 tab, .slice A4 n4 c4, .slice A5 n5 c5, .slice A6 n6 c6, .int .i64 start, .slice A8 n8 c8, .slice A9 n9 c9] → (fun W : World => W.cell? ⟨w.heap.size, 0, none⟩ = some (.slice (some ⟨b, off, none⟩) n0 c0) ∧ W.cell? ⟨b, off + k * 2, none⟩ = some (.slice Ap p cp) ∧ W.cell? ⟨b, off + k * 2 + 1, none⟩ = some (.slice Aq q cq)) w2 →
          w2.ownsRow w.heap.size 76 1 (.slice B1 p d1) p (lp.map U8) → w2.ownsRow w.heap.size 76 1 (.slice B2 q d2) q (lq.map U8) → w3.ownsRow w.heap.size 42 2 (.slice (some ⟨g3, 0, none⟩) (k + 1) cap3) (k + 1) (sigC SP SR k ++ [.slice B1 p d1, .slice B2 q d2]) → Fr (fun g => v.ownBlock = some g) w2 w3 →
          (fun W : World => W.cell? ⟨w.heap.size, 0, none⟩ = some (.slice (some ⟨b, off, none⟩) n0 c0) ∧ W.cell? ⟨b, off + k * 2, none⟩ = some (.slice Ap p cp) ∧ W.cell? ⟨b, off + k * 2 + 1, none⟩ = some (.slice Aq q cq)) w3 ∧ Blk w3 (w.heap.size + 1) 73 #[v, .slice A1 n1 c1, .slice none 0 0, .int .i64 tab, .slice A4 n4 c4, .slice A5 n5 c5, .slice A6 n6 c6, .int .i64 start, .slice A8 n8 c8, .slice A9 n9 c9] ∧ (fun W : World => W.cell? ⟨w.heap.size, 0, none⟩ = some (.slice (some ⟨b, off, none⟩) n0 c0) ∧ W.cell? ⟨b, off + k * 2, none⟩ = some (.slice Ap p cp) ∧ W.cell? ⟨b, off + k * 2 + 1, none⟩ = some (.slice Aq q cq)) (w3.setCell ⟨w.heap.size + 1, 0, none⟩ (.slice (some ⟨g3, 0, none⟩) (k + 1) cap3)) ∧
          Blk (w3.setCell ⟨w.heap.size + 1, 0, none⟩ (.slice (some ⟨g3, 0, none⟩) (k + 1) cap3)) (w.heap.size + 1) 73 #[(.slice (some ⟨g3, 0, none⟩) (k + 1) cap3), .slice A1 n1 c1, .slice none 0 0, .int .i64 tab, .slice A4 n4 c4, .slice A5 n5 c5, .slice A6 n6 c6, .int .i64 start, .slice A8 n8 c8, .slice A9 n9 c9] ∧ SgM (w3.setCell ⟨w.heap.size + 1, 0, none⟩ (.slice (some ⟨g3, 0, none⟩) (k + 1) cap3)) w.heap.size (.slice (some ⟨g3, 0, none⟩) (k + 1) cap3) (k + 1) X0 (fun i => if i = k then .slice B1 p d1 else SP i) (fun i => if i = k then .slice B2 q d2 else SR i) ∧
          Below w.heap.size w (w3.setCell ⟨w.heap.size + 1, 0, none⟩ (.slice (some ⟨g3, 0, none⟩) (k + 1) cap3)) ∧ Blk (w3.setCell ⟨w.heap.size + 1, 0, none⟩ (.slice (some ⟨g3, 0, none⟩) (k + 1) cap3)) w.heap.size 31 #[.slice (some ⟨b, off, none⟩) n0 c0, .slice A1 n1 c1, .slice A2 n2 c2, .int .i64 tab, .slice A4 n4 c4, .slice A5 n5 c5, .slice A6 n6 c6, .int .i64 start, .slice A8 n8 c8, .slice A9 n9 c9]) := Lib.hid (fun w2 w3 B1 B2 d1 d2 g3 cap3 hM hG hB hX hS o1 o2 o3 hf => by
        have hv : ∀ g, v.ownBlock = some g → w.heap.size ≤ g ∧ g ≠ w.heap.size + 1 ∧ g ≠ w.heap.size := fun g hg => by
          obtain ⟨cs, hc⟩ := own_ty hG.1 hg
          exact ⟨(hG.1.lt g hg).1, hc.ne_ hM (by decide), hc.ne_ hX (by decide)⟩
        have hM3 := hM.fr hf (fun e => (hv _ e).2.1 rfl)
        have hX3 := hX.fr hf (fun e => (hv _ e).2.2 rfl)
        have hB3 : Below w.heap.size w w3 := hf.below hB hB.size (fun g hg => (hv g hg).1)
        have hG3 := hG.snoc (by rw [← hlp, ← hp]; exact o1) (by rw [← hlq, ← hq]; exact o2) hf o3
        have hs4 : Fr (fun g => g = w.heap.size + 1) w3 (w3.setCell ⟨w.heap.size + 1, 0, none⟩ (.slice (some ⟨g3, 0, none⟩) (k + 1) cap3)) := (Fr.refl (fun g => g = w.heap.size + 1) w3).set_ (p := ⟨w.heap.size + 1, 0, none⟩) rfl _
        have hX4 := hX3.fr hs4 (by omega)
        have hB4 : Below w.heap.size w (w3.setCell ⟨w.heap.size + 1, 0, none⟩ (.slice (some ⟨g3, 0, none⟩) (k + 1) cap3)) := hs4.below hB3 hB3.size (fun g hg => by omega)
        have ye : ∀ W, Below w.heap.size w W → W.cell? ⟨b, off + k * 2, none⟩ = some (.slice Ap p cp) ∧ W.cell? ⟨b, off + k * 2 + 1, none⟩ = some (.slice Aq q cq) := fun W hW => by
          refine ⟨?_, ?_⟩
          · rw [hW.cell (p := ⟨b, off + k * 2, none⟩) hbl, ← hB.cell (p := ⟨b, off + k * 2, none⟩) hbl]; exact hS.2.1
          · rw [hW.cell (p := ⟨b, off + k * 2 + 1, none⟩) hbl, ← hB.cell (p := ⟨b, off + k * 2 + 1, none⟩) hbl]; exact hS.2.2
        exact ⟨⟨hX3.cell 0, (ye _ hB3).1, (ye _ hB3).2⟩, hM3, ⟨hX4.cell 0, (ye _ hB4).1, (ye _ hB4).2⟩, hM3.set_ 0 _, hG3.fr hs4 (fun g cs e => ⟨fun hc => by subst e; exact hc.ne_ hM3 (by decide) rfl, fun hc => by subst e; exact hc.ne_ hM3 (by decide) rfl⟩), hB4, hX4⟩)
      have HT1 := Lib.hid (To9_ok Ap p cp lp (by omega) wr.drew (hbp.below ⟨rfl, rfl, rfl, Nat.le_refl _, fun _ _ => rfl⟩))
      have HT2 : Hid (∀ W, Byt W Aq q cq lq → Calls Try.prog 18 #[.slice Aq q cq] W (LPost lq W)) := Lib.hid (fun W hW => To9_ok Aq q cq lq (by omega) W hW)
      have K0 := Lib.hid hk0
      have HBD := Lib.hid hbD
      have HP := Lib.hid hp
      have HQ := Lib.hid hq
      clear hkeep hk0 hbD hat hbp hbq y0 y1 hp hq hlp hlq
      unfold LPost at HT1 HT2
      rw [← HP.out] at HT1
      rw [← HQ.out] at HT2
      go_upto_region 5 with fail
      refine wp_region_held_drew (S := (fun W : World => W.cell? ⟨w.heap.size, 0, none⟩ = some (.slice (some ⟨b, off, none⟩) n0 c0) ∧ W.cell? ⟨b, off + k * 2, none⟩ = some (.slice Ap p cp) ∧ W.cell? ⟨b, off + k * 2 + 1, none⟩ = some (.slice Aq q cq))) (by kernel_rfl) K0.out (fun hHeld => ?_)
      refine wpAnyH_take (i := 0) (oi := ?oi_5) (v := ?_) ?hi_5 (by kernel_rfl) ?hf_5 (by kernel_rfl) ?hQ_5 ?hy_5 (by assumption) ?_
      case hi_5 => first | (simp only [List.getElem?_toArray, List.getElem?_cons_zero, List.getElem?_cons_succ]; done) | (simp only [List.getElem?_toArray, List.getElem?_cons_zero, List.getElem?_cons_succ]; rfl)
      case hf_5 => kernel_rfl
      case hQ_5 => exact fun _ _ _ h => h
      case hy_5 =>
        refine Or.inl ⟨by rfl, ?_⟩
        intro W hSw
        obtain ⟨q0, q1, q2⟩ := hSw
        go_simp
        try with_reducible rfl
      try simp only [Act.put, List.setIfInBounds_toArray, List.set_cons_zero, List.set_cons_succ]
      refine wpAnyH_take (i := 1) (oi := ?oi_6) (v := ?_) ?hi_6 (by kernel_rfl) ?hf_6 (by kernel_rfl) ?hQ_6 ?hy_6 (by assumption) ?_
      case hi_6 => first | (simp only [List.getElem?_toArray, List.getElem?_cons_zero, List.getElem?_cons_succ]; done) | (simp only [List.getElem?_toArray, List.getElem?_cons_zero, List.getElem?_cons_succ]; rfl)
      case hf_6 => kernel_rfl
      case hQ_6 => exact fun _ _ _ h => h
      case hy_6 =>
        refine Or.inl ⟨by rfl, ?_⟩
        intro W hSw
        obtain ⟨q0, q1, q2⟩ := hSw
        go_simp
        try with_reducible rfl
      try simp only [Act.put, List.setIfInBounds_toArray, List.set_cons_zero, List.set_cons_succ]
      refine wpAnyH_take (i := 2) (oi := ?oi_7) (v := ?_) ?hi_7 (by kernel_rfl) ?hf_7 (by kernel_rfl) ?hQ_7 ?hy_7 (by assumption) ?_
      case hi_7 => first | (simp only [List.getElem?_toArray, List.getElem?_cons_zero, List.getElem?_cons_succ]; done) | (simp only [List.getElem?_toArray, List.getElem?_cons_zero, List.getElem?_cons_succ]; rfl)
      case hf_7 => kernel_rfl
      case hQ_7 => exact fun _ _ _ h => h
      case hy_7 =>
        refine Or.inl ⟨by rfl, ?_⟩
        intro W hSw
        obtain ⟨q0, q1, q2⟩ := hSw
        go_simp
        try with_reducible rfl
      try simp only [Act.put, List.setIfInBounds_toArray, List.set_cons_zero, List.set_cons_succ]
      refine wpAnyH_take (i := 3) (oi := ?oi_8) (v := ?_) ?hi_8 (by kernel_rfl) ?hf_8 (by kernel_rfl) ?hQ_8 ?hy_8 (by assumption) ?_
      case hi_8 => first | (simp only [List.getElem?_toArray, List.getElem?_cons_zero, List.getElem?_cons_succ]; done) | (simp only [List.getElem?_toArray, List.getElem?_cons_zero, List.getElem?_cons_succ]; rfl)
      case hf_8 => kernel_rfl
      case hQ_8 => exact fun _ _ _ h => h
      case hy_8 =>
        refine Or.inl ⟨by rfl, ?_⟩
        intro W hSw
        obtain ⟨q0, q1, q2⟩ := hSw
        go_simp
        try with_reducible rfl
      try simp only [Act.put, List.setIfInBounds_toArray, List.set_cons_zero, List.set_cons_succ]
      refine wpAnyH_take (i := 5) (oi := ?oi_9) (v := ?_) ?hi_9 (by kernel_rfl) ?hf_9 (by kernel_rfl) ?hQ_9 ?hy_9 (by assumption) ?_
      case hi_9 => first | (simp only [List.getElem?_toArray, List.getElem?_cons_zero, List.getElem?_cons_succ]; done) | (simp only [List.getElem?_toArray, List.getElem?_cons_zero, List.getElem?_cons_succ]; rfl)
      case hf_9 => kernel_rfl
      case hQ_9 => exact fun _ _ _ h => h
      case hy_9 =>
        refine Or.inl ⟨by rfl, ?_⟩
        intro W hSw
        obtain ⟨q0, q1, q2⟩ := hSw
        go_simp
        try with_reducible rfl
      try simp only [Act.put, List.setIfInBounds_toArray, List.set_cons_zero, List.set_cons_succ]
      refine wpAnyH_take (i := 6) (oi := ?oi_10) (v := ?_) ?hi_10 (by kernel_rfl) ?hf_10 (by kernel_rfl) ?hQ_10 ?hy_10 (by assumption) ?_
      case hi_10 => first | (simp only [List.getElem?_toArray, List.getElem?_cons_zero, List.getElem?_cons_succ]; done) | (simp only [List.getElem?_toArray, List.getElem?_cons_zero, List.getElem?_cons_succ]; rfl)
      case hf_10 => kernel_rfl
      case hQ_10 => exact fun _ _ _ h => h
      case hy_10 =>
        refine Or.inl ⟨by rfl, ?_⟩
        intro W hSw
        obtain ⟨q0, q1, q2⟩ := hSw
        go_simp
        try with_reducible rfl
      try simp only [Act.put, List.setIfInBounds_toArray, List.set_cons_zero, List.set_cons_succ]
      refine wpAnyH_take (i := 7) (oi := ?oi_11) (v := ?_) ?hi_11 (by kernel_rfl) ?hf_11 (by kernel_rfl) ?hQ_11 ?hy_11 (by assumption) ?_
      case hi_11 => first | (simp only [List.getElem?_toArray, List.getElem?_cons_zero, List.getElem?_cons_succ]; done) | (simp only [List.getElem?_toArray, List.getElem?_cons_zero, List.getElem?_cons_succ]; rfl)
      case hf_11 => kernel_rfl
      case hQ_11 => exact fun _ _ _ h => h
      case hy_11 =>
        refine Or.inl ⟨by rfl, ?_⟩
        intro W hSw
        obtain ⟨q0, q1, q2⟩ := hSw
        go_simp
        try with_reducible rfl
      try simp only [Act.put, List.setIfInBounds_toArray, List.set_cons_zero, List.set_cons_succ]
      refine wpAnyH_take (i := 8) (oi := ?oi_12) (v := ?_) ?hi_12 (by kernel_rfl) ?hf_12 (by kernel_rfl) ?hQ_12 ?hy_12 (by assumption) ?_
      case hi_12 => first | (simp only [List.getElem?_toArray, List.getElem?_cons_zero, List.getElem?_cons_succ]; done) | (simp only [List.getElem?_toArray, List.getElem?_cons_zero, List.getElem?_cons_succ]; rfl)
      case hf_12 => kernel_rfl
      case hQ_12 => exact fun _ _ _ h => h
      case hy_12 =>
        refine Or.inl ⟨by rfl, ?_⟩
        intro W hSw
        obtain ⟨q0, q1, q2⟩ := hSw
        go_simp
        try with_reducible rfl
      try simp only [Act.put, List.setIfInBounds_toArray, List.set_cons_zero, List.set_cons_succ]
      refine wpAnyH_take (i := 9) (oi := ?oi_13) (v := ?_) ?hi_13 (by kernel_rfl) ?hf_13 (by kernel_rfl) ?hQ_13 ?hy_13 (by assumption) ?_
      case hi_13 => first | (simp only [List.getElem?_toArray, List.getElem?_cons_zero, List.getElem?_cons_succ]; done) | (simp only [List.getElem?_toArray, List.getElem?_cons_zero, List.getElem?_cons_succ]; rfl)
      case hf_13 => kernel_rfl
      case hQ_13 => exact fun _ _ _ h => h
      case hy_13 =>
        refine Or.inl ⟨by rfl, ?_⟩
        intro W hSw
        obtain ⟨q0, q1, q2⟩ := hSw
        go_simp
        try with_reducible rfl
      try simp only [Act.put, List.setIfInBounds_toArray, List.set_cons_zero, List.set_cons_succ]
      refine wpAnyH_take (i := 10) (oi := ?oi_14) (v := ?_) ?hi_14 (by kernel_rfl) ?hf_14 (by kernel_rfl) ?hQ_14 ?hy_14 (by assumption) ?_
      case hi_14 => first | (simp only [List.getElem?_toArray, List.getElem?_cons_zero, List.getElem?_cons_succ]; done) | (simp only [List.getElem?_toArray, List.getElem?_cons_zero, List.getElem?_cons_succ]; rfl)
      case hf_14 => kernel_rfl
      case hQ_14 => exact fun _ _ _ h => h
      case hy_14 =>
        refine Or.inl ⟨by rfl, ?_⟩
        intro W hSw
        obtain ⟨q0, q1, q2⟩ := hSw
        go_simp
        try with_reducible rfl
      try simp only [Act.put, List.setIfInBounds_toArray, List.set_cons_zero, List.set_cons_succ]
      refine wpAnyH_take (i := 12) (oi := ?oi_15) (v := ?_) ?hi_15 (by kernel_rfl) ?hf_15 (by kernel_rfl) ?hQ_15 ?hy_15 (by assumption) ?_
      case hi_15 => first | (simp only [List.getElem?_toArray, List.getElem?_cons_zero, List.getElem?_cons_succ]; done) | (simp only [List.getElem?_toArray, List.getElem?_cons_zero, List.getElem?_cons_succ]; rfl)
      case hf_15 => kernel_rfl
      case hQ_15 => exact fun _ _ _ h => h
      case hy_15 =>
        refine Or.inl ⟨by rfl, ?_⟩
        intro W hSw
        obtain ⟨q0, q1, q2⟩ := hSw
        go_simp
        try with_reducible rfl
      try simp only [Act.put, List.setIfInBounds_toArray, List.set_cons_zero, List.set_cons_succ]
      refine wpAnyH_take (i := 13) (oi := ?oi_16) (v := ?_) ?hi_16 (by kernel_rfl) ?hf_16 (by kernel_rfl) ?hQ_16 ?hy_16 (by assumption) ?_
      case hi_16 => first | (simp only [List.getElem?_toArray, List.getElem?_cons_zero, List.getElem?_cons_succ]; done) | (simp only [List.getElem?_toArray, List.getElem?_cons_zero, List.getElem?_cons_succ]; rfl)
      case hf_16 => kernel_rfl
      case hQ_16 => exact fun _ _ _ h => h
      case hy_16 =>
        refine Or.inl ⟨by rfl, ?_⟩
        intro W hSw
        obtain ⟨q0, q1, q2⟩ := hSw
        go_simp
        try with_reducible rfl
      try simp only [Act.put, List.setIfInBounds_toArray, List.set_cons_zero, List.set_cons_succ]
      refine wpAnyH_take (i := 14) (oi := ?oi_17) (v := ?_) ?hi_17 (by kernel_rfl) ?hf_17 (by kernel_rfl) ?hQ_17 ?hy_17 (by assumption) ?_
      case hi_17 => first | (simp only [List.getElem?_toArray, List.getElem?_cons_zero, List.getElem?_cons_succ]; done) | (simp only [List.getElem?_toArray, List.getElem?_cons_zero, List.getElem?_cons_succ]; rfl)
      case hf_17 => kernel_rfl
      case hQ_17 => exact fun _ _ _ h => h
      case hy_17 =>
        refine Or.inl ⟨by rfl, ?_⟩
        intro W hSw
        obtain ⟨q0, q1, q2⟩ := hSw
        go_simp
        try with_reducible rfl
      try simp only [Act.put, List.setIfInBounds_toArray, List.set_cons_zero, List.set_cons_succ]
      refine wpAnyH_take (i := 15) (oi := ?oi_18) (v := ?_) ?hi_18 (by kernel_rfl) ?hf_18 (by kernel_rfl) ?hQ_18 ?hy_18 (by assumption) ?_
      case hi_18 => first | (simp only [List.getElem?_toArray, List.getElem?_cons_zero, List.getElem?_cons_succ]; done) | (simp only [List.getElem?_toArray, List.getElem?_cons_zero, List.getElem?_cons_succ]; rfl)
      case hf_18 => kernel_rfl
      case hQ_18 => exact fun _ _ _ h => h
      case hy_18 =>
        refine Or.inl ⟨by rfl, ?_⟩
        intro W hSw
        obtain ⟨q0, q1, q2⟩ := hSw
        go_simp
        try with_reducible rfl
      try simp only [Act.put, List.setIfInBounds_toArray, List.set_cons_zero, List.set_cons_succ]
      refine wpAnyH_take (i := 16) (oi := ?oi_19) (v := ?_) ?hi_19 (by kernel_rfl) ?hf_19 (by kernel_rfl) ?hQ_19 ?hy_19 (by assumption) ?_
      case hi_19 => first | (simp only [List.getElem?_toArray, List.getElem?_cons_zero, List.getElem?_cons_succ]; done) | (simp only [List.getElem?_toArray, List.getElem?_cons_zero, List.getElem?_cons_succ]; rfl)
      case hf_19 => kernel_rfl
      case hQ_19 => exact fun _ _ _ h => h
      case hy_19 =>
        refine Or.inl ⟨by rfl, ?_⟩
        intro W hSw
        obtain ⟨q0, q1, q2⟩ := hSw
        go_simp
        try with_reducible rfl
      try simp only [Act.put, List.setIfInBounds_toArray, List.set_cons_zero, List.set_cons_succ]
      refine wpAnyH_take (i := 17) (oi := ?oi_20) (v := ?_) ?hi_20 (by kernel_rfl) ?hf_20 (by kernel_rfl) ?hQ_20 ?hy_20 (by assumption) ?_
      case hi_20 => first | (simp only [List.getElem?_toArray, List.getElem?_cons_zero, List.getElem?_cons_succ]; done) | (simp only [List.getElem?_toArray, List.getElem?_cons_zero, List.getElem?_cons_succ]; rfl)
      case hf_20 => kernel_rfl
      case hQ_20 => exact fun _ _ _ h => h
      case hy_20 =>
        refine Or.inl ⟨by rfl, ?_⟩
        intro W hSw
        obtain ⟨q0, q1, q2⟩ := hSw
        go_simp
        try with_reducible rfl
      try simp only [Act.put, List.setIfInBounds_toArray, List.set_cons_zero, List.set_cons_succ]
      refine wpAnyH_ready (rs := [4, 11]) (by kernel_rfl) (by simp) ?_
      refine AllReadyH.cons (o := ?oi_35) ?hi_35 (fun K hK => ?_) ?more_35
      case hi_35 => first | (simp only [List.getElem?_toArray, List.getElem?_cons_zero, List.getElem?_cons_succ]; done) | (simp only [List.getElem?_toArray, List.getElem?_cons_zero, List.getElem?_cons_succ]; rfl)
      rotate_left
      case more_35 =>
        refine AllReadyH.cons (o := ?oi_36) ?hi_36 (fun K hK => ?_) AllReadyH.nil
        case hi_36 => first | (simp only [List.getElem?_toArray, List.getElem?_cons_zero, List.getElem?_cons_succ]; done) | (simp only [List.getElem?_toArray, List.getElem?_cons_zero, List.getElem?_cons_succ]; rfl)
        go_simp
        (go_at_call 18
         with_reducible refine HT1.out.mono ?_
         rintro e w1 ⟨v1, rfl, ho1, hb1⟩
         obtain ⟨B1, d1, rfl⟩ := own_slice ho1
         have h1 := st1.out w1 hb1
         have K1 := Lib.hid h1.1
         have M1 := Lib.hid h1.2.1
         have G1 := Lib.hid h1.2.2.1
         have HB1 := Lib.hid h1.2.2.2.1
         have HY1 := Lib.hid h1.2.2.2.2.1
         have HX1 := Lib.hid h1.2.2.2.2.2
         have O1 := Lib.hid (own_base ho1 HBD.out.size)
         clear h1 hb1 ho1)
        refine hK.out _ _ K1.out (fun hHeld => ?_)
        clear hK K
        try simp only [Act.put, List.setIfInBounds_toArray, List.set_cons_zero, List.set_cons_succ]
        refine wpAnyH_ready (rs := [4, 18]) (by kernel_rfl) (by simp) ?_
        refine AllReadyH.cons (o := ?oi_33) ?hi_33 (fun K hK => ?_) ?more_33
        case hi_33 => first | (simp only [List.getElem?_toArray, List.getElem?_cons_zero, List.getElem?_cons_succ]; done) | (simp only [List.getElem?_toArray, List.getElem?_cons_zero, List.getElem?_cons_succ]; rfl)
        rotate_left
        case more_33 =>
          refine AllReadyH.cons (o := ?oi_34) ?hi_34 (fun K hK => ?_) AllReadyH.nil
          case hi_34 => first | (simp only [List.getElem?_toArray, List.getElem?_cons_zero, List.getElem?_cons_succ]; done) | (simp only [List.getElem?_toArray, List.getElem?_cons_zero, List.getElem?_cons_succ]; rfl)
          go_simp
          (go_at_call 18
           with_reducible refine (HT2.out _ HY1.out).mono ?_
           rintro e w2 ⟨v2, rfl, ho2, hb2⟩
           obtain ⟨B2, d2, rfl⟩ := own_slice ho2
           have h2 := st2.out w1 w2 K1.out M1.out G1.out HB1.out HX1.out hb2
           have K2 := Lib.hid h2.1
           have M2 := Lib.hid h2.2.1
           have G2 := Lib.hid h2.2.2.1
           have HB2 := Lib.hid h2.2.2.2.1
           have HX2 := Lib.hid h2.2.2.2.2
           have O12 := Lib.hid (own_kept O1.out hb2)
           have O2 := Lib.hid (own_base ho2 HB1.out.size)
           clear h2 hb2 ho2)
          refine hK.out _ _ K2.out (fun hHeld => ?_)
          clear hK K
          try simp only [Act.put, List.setIfInBounds_toArray, List.set_cons_zero, List.set_cons_succ]
          refine wpAnyH_take (i := 19) (oi := ?oi_28) (v := ?_) ?hi_28 (by kernel_rfl) ?hf_28 (by kernel_rfl) ?hQ_28 ?hy_28 (by assumption) ?_
          case hi_28 => first | (simp only [List.getElem?_toArray, List.getElem?_cons_zero, List.getElem?_cons_succ]; done) | (simp only [List.getElem?_toArray, List.getElem?_cons_zero, List.getElem?_cons_succ]; rfl)
          case hf_28 => kernel_rfl
          case hQ_28 => exact fun _ _ _ h => h
          case hy_28 =>
            refine Or.inl ⟨by rfl, ?_⟩
            intro W hSw
            obtain ⟨q0, q1, q2⟩ := hSw
            go_simp
            try with_reducible rfl
          try simp only [Act.put, List.setIfInBounds_toArray, List.set_cons_zero, List.set_cons_succ]
          refine wpAnyH_ready (rs := [4, 20]) (by kernel_rfl) (by simp) ?_
          refine AllReadyH.cons (o := ?oi_31) ?hi_31 (fun K hK => ?_) ?more_31
          case hi_31 => first | (simp only [List.getElem?_toArray, List.getElem?_cons_zero, List.getElem?_cons_succ]; done) | (simp only [List.getElem?_toArray, List.getElem?_cons_zero, List.getElem?_cons_succ]; rfl)
          rotate_left
          case more_31 =>
            refine AllReadyH.cons (o := ?oi_32) ?hi_32 (fun K hK => ?_) AllReadyH.nil
            case hi_32 => first | (simp only [List.getElem?_toArray, List.getElem?_cons_zero, List.getElem?_cons_succ]; done) | (simp only [List.getElem?_toArray, List.getElem?_cons_zero, List.getElem?_cons_succ]; rfl)
            go_simp
            have k3 := st3.out w2 (.cells #[.slice B1 p d1, .slice B2 q d2] 42) M2.out HB2.out K2.out
            have m3 := M2.out.alloc (.cells #[.slice B1 p d1, .slice B2 q d2] 42)
            have K3 := Lib.hid k3
            have M3 := Lib.hid m3
            clear k3 m3
            refine hK.out _ _ K3.out (fun hHeld => ?_)
            clear hK K
            try simp only [Act.put, List.setIfInBounds_toArray, List.set_cons_zero, List.set_cons_succ]
            refine wpAnyH_ready (rs := [4]) (by kernel_rfl) (by simp) ?_
            refine AllReadyH.cons (o := ?oi_30) ?hi_30 (fun K hK => ?_) AllReadyH.nil
            case hi_30 => first | (simp only [List.getElem?_toArray, List.getElem?_cons_zero, List.getElem?_cons_succ]; done) | (simp only [List.getElem?_toArray, List.getElem?_cons_zero, List.getElem?_cons_succ]; rfl)
            have xm := M3.out.cell 0
            go_simp
            clear xm
            refine hK.out _ _ K3.out (fun hHeld => ?_)
            clear hK K
            try simp only [Act.put, List.setIfInBounds_toArray, List.set_cons_zero, List.set_cons_succ]
            obtain ⟨g3, cap3, w3, hap, hown, hf⟩ := app_at w.heap.size 70 42 2 48 i0 _ Try.underlying70 hi hz0 hz1 hz2 rfl (by decide) w2 v k _ G2.out.1 [.slice B1 p d1, .slice B2 q d2] rfl (by intro u hu; simp at hu; rcases hu with rfl | rfl <;> rfl) (by omega) (by decide) HB2.out.size
            have h5 := st5.out w2 w3 B1 B2 d1 d2 g3 cap3 M2.out G2.out HB2.out HX2.out K2.out O12.out O2.out hown hf
            have HAP := Lib.hid hap
            have K5 := Lib.hid h5.1
            have M5 := Lib.hid h5.2.1
            have K6 := Lib.hid h5.2.2.1
            have H6 := Lib.hid h5.2.2.2
            clear hap hown hf h5
            refine wpAnyH_ready (rs := [21]) (by kernel_rfl) (by simp) ?_
            refine AllReadyH.cons (o := ?oi_1) ?hi_1 (fun K hK => ?_) AllReadyH.nil
            case hi_1 => first | (simp only [List.getElem?_toArray, List.getElem?_cons_zero, List.getElem?_cons_succ]; done) | (simp only [List.getElem?_toArray, List.getElem?_cons_zero, List.getElem?_cons_succ]; rfl)
            refine step_append_run rfl (.tmp 35) (.tmp 51) 70 rfl v (.slice (some ⟨w2.heap.size, 0, none⟩) 1 1) (.slice (some ⟨g3, 0, none⟩) (k + 1) cap3) w3 rfl rfl HAP ?_
            refine hK.out _ _ K5.out (fun hHeld => ?_)
            clear hK K
            try simp only [Act.put, List.setIfInBounds_toArray, List.set_cons_zero, List.set_cons_succ]
            refine wpAnyH_take (i := 22) (oi := ?oi_2) (v := ?_) ?hi_2 (by kernel_rfl) ?hf_2 (by kernel_rfl) ?hQ_2 ?hy_2 (by assumption) ?_
            case hi_2 => first | (simp only [List.getElem?_toArray, List.getElem?_cons_zero, List.getElem?_cons_succ]; done) | (simp only [List.getElem?_toArray, List.getElem?_cons_zero, List.getElem?_cons_succ]; rfl)
            case hf_2 => kernel_rfl
            case hQ_2 => exact fun _ _ _ h => h
            case hy_2 =>
              refine Or.inl ⟨by rfl, ?_⟩
              intro W hSw
              obtain ⟨q0, q1, q2⟩ := hSw
              go_simp
              try with_reducible rfl
            try simp only [Act.put, List.setIfInBounds_toArray, List.set_cons_zero, List.set_cons_succ]
            refine wpAnyH_take (i := 23) (oi := ?oi_3) (v := ?_) ?hi_3 (by kernel_rfl) ?hf_3 (by kernel_rfl) ?hQ_3 ?hy_3 (by assumption) ?_
            case hi_3 => first | (simp only [List.getElem?_toArray, List.getElem?_cons_zero, List.getElem?_cons_succ]; done) | (simp only [List.getElem?_toArray, List.getElem?_cons_zero, List.getElem?_cons_succ]; rfl)
            case hf_3 => kernel_rfl
            case hQ_3 => exact fun _ _ _ h => h
            case hy_3 =>
              refine Or.inl ⟨by rfl, ?_⟩
              intro W hSw
              obtain ⟨q0, q1, q2⟩ := hSw
              go_simp
              try with_reducible rfl
            try simp only [Act.put, List.setIfInBounds_toArray, List.set_cons_zero, List.set_cons_succ]
            refine wpAnyH_ready (rs := [24]) (by kernel_rfl) (by simp) ?_
            refine AllReadyH.cons (o := ?oi_4) ?hi_4 (fun K hK => ?_) AllReadyH.nil
            case hi_4 => first | (simp only [List.getElem?_toArray, List.getElem?_cons_zero, List.getElem?_cons_succ]; done) | (simp only [List.getElem?_toArray, List.getElem?_cons_zero, List.getElem?_cons_succ]; rfl)
            have xm := M5.out.cell 0
            have xz := M5.out.frozen 0
            go_simp
            clear xm xz
            refine hK.out _ _ K6.out (fun hHeld => ?_)
            clear hK K
            try simp only [Act.put, List.setIfInBounds_toArray, List.set_cons_zero, List.set_cons_succ]
            refine wpAnyH_done (by kernel_rfl) ?_ _
            clear hHeld
            go_wp2
            go_roundw
            case rel => exact ⟨k + 1, _, _, _, by omega, by go_num, Lib.hid H6.out.1, Lib.hid H6.out.2.1, Lib.hid H6.out.2.2.1, Lib.hid H6.out.2.2.2⟩
            case measure => simp [intOf]; omega
          have xm := M2.out.cell 0
          go_simp
          clear xm
          refine hK.out _ _ K2.out (fun hHeld => ?_)
          clear hK K
          try simp only [Act.put, List.setIfInBounds_toArray, List.set_cons_zero, List.set_cons_succ]
          refine wpAnyH_ready (rs := [20]) (by kernel_rfl) (by simp) ?_
          refine AllReadyH.cons (o := ?oi_29) ?hi_29 (fun K hK => ?_) AllReadyH.nil
          case hi_29 => first | (simp only [List.getElem?_toArray, List.getElem?_cons_zero, List.getElem?_cons_succ]; done) | (simp only [List.getElem?_toArray, List.getElem?_cons_zero, List.getElem?_cons_succ]; rfl)
          go_simp
          have k3 := st3.out w2 (.cells #[.slice B1 p d1, .slice B2 q d2] 42) M2.out HB2.out K2.out
          have m3 := M2.out.alloc (.cells #[.slice B1 p d1, .slice B2 q d2] 42)
          have K3 := Lib.hid k3
          have M3 := Lib.hid m3
          clear k3 m3
          refine hK.out _ _ K3.out (fun hHeld => ?_)
          clear hK K
          try simp only [Act.put, List.setIfInBounds_toArray, List.set_cons_zero, List.set_cons_succ]
          obtain ⟨g3, cap3, w3, hap, hown, hf⟩ := app_at w.heap.size 70 42 2 48 i0 _ Try.underlying70 hi hz0 hz1 hz2 rfl (by decide) w2 v k _ G2.out.1 [.slice B1 p d1, .slice B2 q d2] rfl (by intro u hu; simp at hu; rcases hu with rfl | rfl <;> rfl) (by omega) (by decide) HB2.out.size
          have h5 := st5.out w2 w3 B1 B2 d1 d2 g3 cap3 M2.out G2.out HB2.out HX2.out K2.out O12.out O2.out hown hf
          have HAP := Lib.hid hap
          have K5 := Lib.hid h5.1
          have M5 := Lib.hid h5.2.1
          have K6 := Lib.hid h5.2.2.1
          have H6 := Lib.hid h5.2.2.2
          clear hap hown hf h5
          refine wpAnyH_ready (rs := [21]) (by kernel_rfl) (by simp) ?_
          refine AllReadyH.cons (o := ?oi_1) ?hi_1 (fun K hK => ?_) AllReadyH.nil
          case hi_1 => first | (simp only [List.getElem?_toArray, List.getElem?_cons_zero, List.getElem?_cons_succ]; done) | (simp only [List.getElem?_toArray, List.getElem?_cons_zero, List.getElem?_cons_succ]; rfl)
          refine step_append_run rfl (.tmp 35) (.tmp 51) 70 rfl v (.slice (some ⟨w2.heap.size, 0, none⟩) 1 1) (.slice (some ⟨g3, 0, none⟩) (k + 1) cap3) w3 rfl rfl HAP ?_
          refine hK.out _ _ K5.out (fun hHeld => ?_)
          clear hK K
          try simp only [Act.put, List.setIfInBounds_toArray, List.set_cons_zero, List.set_cons_succ]
          refine wpAnyH_take (i := 22) (oi := ?oi_2) (v := ?_) ?hi_2 (by kernel_rfl) ?hf_2 (by kernel_rfl) ?hQ_2 ?hy_2 (by assumption) ?_
          case hi_2 => first | (simp only [List.getElem?_toArray, List.getElem?_cons_zero, List.getElem?_cons_succ]; done) | (simp only [List.getElem?_toArray, List.getElem?_cons_zero, List.getElem?_cons_succ]; rfl)
          case hf_2 => kernel_rfl
          case hQ_2 => exact fun _ _ _ h => h
          case hy_2 =>
            refine Or.inl ⟨by rfl, ?_⟩
            intro W hSw
            obtain ⟨q0, q1, q2⟩ := hSw
            go_simp
            try with_reducible rfl
          try simp only [Act.put, List.setIfInBounds_toArray, List.set_cons_zero, List.set_cons_succ]
          refine wpAnyH_take (i := 23) (oi := ?oi_3) (v := ?_) ?hi_3 (by kernel_rfl) ?hf_3 (by kernel_rfl) ?hQ_3 ?hy_3 (by assumption) ?_
          case hi_3 => first | (simp only [List.getElem?_toArray, List.getElem?_cons_zero, List.getElem?_cons_succ]; done) | (simp only [List.getElem?_toArray, List.getElem?_cons_zero, List.getElem?_cons_succ]; rfl)
          case hf_3 => kernel_rfl
          case hQ_3 => exact fun _ _ _ h => h
          case hy_3 =>
            refine Or.inl ⟨by rfl, ?_⟩
            intro W hSw
            obtain ⟨q0, q1, q2⟩ := hSw
            go_simp
            try with_reducible rfl
          try simp only [Act.put, List.setIfInBounds_toArray, List.set_cons_zero, List.set_cons_succ]
          refine wpAnyH_ready (rs := [24]) (by kernel_rfl) (by simp) ?_
          refine AllReadyH.cons (o := ?oi_4) ?hi_4 (fun K hK => ?_) AllReadyH.nil
          case hi_4 => first | (simp only [List.getElem?_toArray, List.getElem?_cons_zero, List.getElem?_cons_succ]; done) | (simp only [List.getElem?_toArray, List.getElem?_cons_zero, List.getElem?_cons_succ]; rfl)
          have xm := M5.out.cell 0
          have xz := M5.out.frozen 0
          go_simp
          clear xm xz
          refine hK.out _ _ K6.out (fun hHeld => ?_)
          clear hK K
          try simp only [Act.put, List.setIfInBounds_toArray, List.set_cons_zero, List.set_cons_succ]
          refine wpAnyH_done (by kernel_rfl) ?_ _
          clear hHeld
          go_wp2
          go_roundw
          case rel => exact ⟨k + 1, _, _, _, by omega, by go_num, Lib.hid H6.out.1, Lib.hid H6.out.2.1, Lib.hid H6.out.2.2.1, Lib.hid H6.out.2.2.2⟩
          case measure => simp [intOf]; omega
        have xm := M1.out.cell 0
        go_simp
        clear xm
        refine hK.out _ _ K1.out (fun hHeld => ?_)
        clear hK K
        try simp only [Act.put, List.setIfInBounds_toArray, List.set_cons_zero, List.set_cons_succ]
        refine wpAnyH_ready (rs := [18]) (by kernel_rfl) (by simp) ?_
        refine AllReadyH.cons (o := ?oi_27) ?hi_27 (fun K hK => ?_) AllReadyH.nil
        case hi_27 => first | (simp only [List.getElem?_toArray, List.getElem?_cons_zero, List.getElem?_cons_succ]; done) | (simp only [List.getElem?_toArray, List.getElem?_cons_zero, List.getElem?_cons_succ]; rfl)
        go_simp
        (go_at_call 18
         with_reducible refine (HT2.out _ HY1.out).mono ?_
         rintro e w2 ⟨v2, rfl, ho2, hb2⟩
         obtain ⟨B2, d2, rfl⟩ := own_slice ho2
         have h2 := st2.out w1 w2 K1.out M1.out G1.out HB1.out HX1.out hb2
         have K2 := Lib.hid h2.1
         have M2 := Lib.hid h2.2.1
         have G2 := Lib.hid h2.2.2.1
         have HB2 := Lib.hid h2.2.2.2.1
         have HX2 := Lib.hid h2.2.2.2.2
         have O12 := Lib.hid (own_kept O1.out hb2)
         have O2 := Lib.hid (own_base ho2 HB1.out.size)
         clear h2 hb2 ho2)
        refine hK.out _ _ K2.out (fun hHeld => ?_)
        clear hK K
        try simp only [Act.put, List.setIfInBounds_toArray, List.set_cons_zero, List.set_cons_succ]
        refine wpAnyH_take (i := 19) (oi := ?oi_25) (v := ?_) ?hi_25 (by kernel_rfl) ?hf_25 (by kernel_rfl) ?hQ_25 ?hy_25 (by assumption) ?_
        case hi_25 => first | (simp only [List.getElem?_toArray, List.getElem?_cons_zero, List.getElem?_cons_succ]; done) | (simp only [List.getElem?_toArray, List.getElem?_cons_zero, List.getElem?_cons_succ]; rfl)
        case hf_25 => kernel_rfl
        case hQ_25 => exact fun _ _ _ h => h
        case hy_25 =>
          refine Or.inl ⟨by rfl, ?_⟩
          intro W hSw
          obtain ⟨q0, q1, q2⟩ := hSw
          go_simp
          try with_reducible rfl
        try simp only [Act.put, List.setIfInBounds_toArray, List.set_cons_zero, List.set_cons_succ]
        refine wpAnyH_ready (rs := [20]) (by kernel_rfl) (by simp) ?_
        refine AllReadyH.cons (o := ?oi_26) ?hi_26 (fun K hK => ?_) AllReadyH.nil
        case hi_26 => first | (simp only [List.getElem?_toArray, List.getElem?_cons_zero, List.getElem?_cons_succ]; done) | (simp only [List.getElem?_toArray, List.getElem?_cons_zero, List.getElem?_cons_succ]; rfl)
        go_simp
        have k3 := st3.out w2 (.cells #[.slice B1 p d1, .slice B2 q d2] 42) M2.out HB2.out K2.out
        have m3 := M2.out.alloc (.cells #[.slice B1 p d1, .slice B2 q d2] 42)
        have K3 := Lib.hid k3
        have M3 := Lib.hid m3
        clear k3 m3
        refine hK.out _ _ K3.out (fun hHeld => ?_)
        clear hK K
        try simp only [Act.put, List.setIfInBounds_toArray, List.set_cons_zero, List.set_cons_succ]
        obtain ⟨g3, cap3, w3, hap, hown, hf⟩ := app_at w.heap.size 70 42 2 48 i0 _ Try.underlying70 hi hz0 hz1 hz2 rfl (by decide) w2 v k _ G2.out.1 [.slice B1 p d1, .slice B2 q d2] rfl (by intro u hu; simp at hu; rcases hu with rfl | rfl <;> rfl) (by omega) (by decide) HB2.out.size
        have h5 := st5.out w2 w3 B1 B2 d1 d2 g3 cap3 M2.out G2.out HB2.out HX2.out K2.out O12.out O2.out hown hf
        have HAP := Lib.hid hap
        have K5 := Lib.hid h5.1
        have M5 := Lib.hid h5.2.1
        have K6 := Lib.hid h5.2.2.1
        have H6 := Lib.hid h5.2.2.2
        clear hap hown hf h5
        refine wpAnyH_ready (rs := [21]) (by kernel_rfl) (by simp) ?_
        refine AllReadyH.cons (o := ?oi_1) ?hi_1 (fun K hK => ?_) AllReadyH.nil
        case hi_1 => first | (simp only [List.getElem?_toArray, List.getElem?_cons_zero, List.getElem?_cons_succ]; done) | (simp only [List.getElem?_toArray, List.getElem?_cons_zero, List.getElem?_cons_succ]; rfl)
        refine step_append_run rfl (.tmp 35) (.tmp 51) 70 rfl v (.slice (some ⟨w2.heap.size, 0, none⟩) 1 1) (.slice (some ⟨g3, 0, none⟩) (k + 1) cap3) w3 rfl rfl HAP ?_
        refine hK.out _ _ K5.out (fun hHeld => ?_)
        clear hK K
        try simp only [Act.put, List.setIfInBounds_toArray, List.set_cons_zero, List.set_cons_succ]
        refine wpAnyH_take (i := 22) (oi := ?oi_2) (v := ?_) ?hi_2 (by kernel_rfl) ?hf_2 (by kernel_rfl) ?hQ_2 ?hy_2 (by assumption) ?_
        case hi_2 => first | (simp only [List.getElem?_toArray, List.getElem?_cons_zero, List.getElem?_cons_succ]; done) | (simp only [List.getElem?_toArray, List.getElem?_cons_zero, List.getElem?_cons_succ]; rfl)
        case hf_2 => kernel_rfl
        case hQ_2 => exact fun _ _ _ h => h
        case hy_2 =>
          refine Or.inl ⟨by rfl, ?_⟩
          intro W hSw
          obtain ⟨q0, q1, q2⟩ := hSw
          go_simp
          try with_reducible rfl
        try simp only [Act.put, List.setIfInBounds_toArray, List.set_cons_zero, List.set_cons_succ]
        refine wpAnyH_take (i := 23) (oi := ?oi_3) (v := ?_) ?hi_3 (by kernel_rfl) ?hf_3 (by kernel_rfl) ?hQ_3 ?hy_3 (by assumption) ?_
        case hi_3 => first | (simp only [List.getElem?_toArray, List.getElem?_cons_zero, List.getElem?_cons_succ]; done) | (simp only [List.getElem?_toArray, List.getElem?_cons_zero, List.getElem?_cons_succ]; rfl)
        case hf_3 => kernel_rfl
        case hQ_3 => exact fun _ _ _ h => h
        case hy_3 =>
          refine Or.inl ⟨by rfl, ?_⟩
          intro W hSw
          obtain ⟨q0, q1, q2⟩ := hSw
          go_simp
          try with_reducible rfl
        try simp only [Act.put, List.setIfInBounds_toArray, List.set_cons_zero, List.set_cons_succ]
        refine wpAnyH_ready (rs := [24]) (by kernel_rfl) (by simp) ?_
        refine AllReadyH.cons (o := ?oi_4) ?hi_4 (fun K hK => ?_) AllReadyH.nil
        case hi_4 => first | (simp only [List.getElem?_toArray, List.getElem?_cons_zero, List.getElem?_cons_succ]; done) | (simp only [List.getElem?_toArray, List.getElem?_cons_zero, List.getElem?_cons_succ]; rfl)
        have xm := M5.out.cell 0
        have xz := M5.out.frozen 0
        go_simp
        clear xm xz
        refine hK.out _ _ K6.out (fun hHeld => ?_)
        clear hK K
        try simp only [Act.put, List.setIfInBounds_toArray, List.set_cons_zero, List.set_cons_succ]
        refine wpAnyH_done (by kernel_rfl) ?_ _
        clear hHeld
        go_wp2
        go_roundw
        case rel => exact ⟨k + 1, _, _, _, by omega, by go_num, Lib.hid H6.out.1, Lib.hid H6.out.2.1, Lib.hid H6.out.2.2.1, Lib.hid H6.out.2.2.2⟩
        case measure => simp [intOf]; omega
      have xm := M0.out.cell 0
      go_simp
      clear xm
      refine hK.out _ _ K0.out (fun hHeld => ?_)
      clear hK K
      try simp only [Act.put, List.setIfInBounds_toArray, List.set_cons_zero, List.set_cons_succ]
      refine wpAnyH_ready (rs := [11]) (by kernel_rfl) (by simp) ?_
      refine AllReadyH.cons (o := ?oi_24) ?hi_24 (fun K hK => ?_) AllReadyH.nil
      case hi_24 => first | (simp only [List.getElem?_toArray, List.getElem?_cons_zero, List.getElem?_cons_succ]; done) | (simp only [List.getElem?_toArray, List.getElem?_cons_zero, List.getElem?_cons_succ]; rfl)
      go_simp
      (go_at_call 18
       with_reducible refine HT1.out.mono ?_
       rintro e w1 ⟨v1, rfl, ho1, hb1⟩
       obtain ⟨B1, d1, rfl⟩ := own_slice ho1
       have h1 := st1.out w1 hb1
       have K1 := Lib.hid h1.1
       have M1 := Lib.hid h1.2.1
       have G1 := Lib.hid h1.2.2.1
       have HB1 := Lib.hid h1.2.2.2.1
       have HY1 := Lib.hid h1.2.2.2.2.1
       have HX1 := Lib.hid h1.2.2.2.2.2
       have O1 := Lib.hid (own_base ho1 HBD.out.size)
       clear h1 hb1 ho1)
      refine hK.out _ _ K1.out (fun hHeld => ?_)
      clear hK K
      try simp only [Act.put, List.setIfInBounds_toArray, List.set_cons_zero, List.set_cons_succ]
      refine wpAnyH_ready (rs := [18]) (by kernel_rfl) (by simp) ?_
      refine AllReadyH.cons (o := ?oi_23) ?hi_23 (fun K hK => ?_) AllReadyH.nil
      case hi_23 => first | (simp only [List.getElem?_toArray, List.getElem?_cons_zero, List.getElem?_cons_succ]; done) | (simp only [List.getElem?_toArray, List.getElem?_cons_zero, List.getElem?_cons_succ]; rfl)
      go_simp
      (go_at_call 18
       with_reducible refine (HT2.out _ HY1.out).mono ?_
       rintro e w2 ⟨v2, rfl, ho2, hb2⟩
       obtain ⟨B2, d2, rfl⟩ := own_slice ho2
       have h2 := st2.out w1 w2 K1.out M1.out G1.out HB1.out HX1.out hb2
       have K2 := Lib.hid h2.1
       have M2 := Lib.hid h2.2.1
       have G2 := Lib.hid h2.2.2.1
       have HB2 := Lib.hid h2.2.2.2.1
       have HX2 := Lib.hid h2.2.2.2.2
       have O12 := Lib.hid (own_kept O1.out hb2)
       have O2 := Lib.hid (own_base ho2 HB1.out.size)
       clear h2 hb2 ho2)
      refine hK.out _ _ K2.out (fun hHeld => ?_)
      clear hK K
      try simp only [Act.put, List.setIfInBounds_toArray, List.set_cons_zero, List.set_cons_succ]
      refine wpAnyH_take (i := 19) (oi := ?oi_21) (v := ?_) ?hi_21 (by kernel_rfl) ?hf_21 (by kernel_rfl) ?hQ_21 ?hy_21 (by assumption) ?_
      case hi_21 => first | (simp only [List.getElem?_toArray, List.getElem?_cons_zero, List.getElem?_cons_succ]; done) | (simp only [List.getElem?_toArray, List.getElem?_cons_zero, List.getElem?_cons_succ]; rfl)
      case hf_21 => kernel_rfl
      case hQ_21 => exact fun _ _ _ h => h
      case hy_21 =>
        refine Or.inl ⟨by rfl, ?_⟩
        intro W hSw
        obtain ⟨q0, q1, q2⟩ := hSw
        go_simp
        try with_reducible rfl
      try simp only [Act.put, List.setIfInBounds_toArray, List.set_cons_zero, List.set_cons_succ]
      refine wpAnyH_ready (rs := [20]) (by kernel_rfl) (by simp) ?_
      refine AllReadyH.cons (o := ?oi_22) ?hi_22 (fun K hK => ?_) AllReadyH.nil
      case hi_22 => first | (simp only [List.getElem?_toArray, List.getElem?_cons_zero, List.getElem?_cons_succ]; done) | (simp only [List.getElem?_toArray, List.getElem?_cons_zero, List.getElem?_cons_succ]; rfl)
      go_simp
      have k3 := st3.out w2 (.cells #[.slice B1 p d1, .slice B2 q d2] 42) M2.out HB2.out K2.out
      have m3 := M2.out.alloc (.cells #[.slice B1 p d1, .slice B2 q d2] 42)
      have K3 := Lib.hid k3
      have M3 := Lib.hid m3
      clear k3 m3
      refine hK.out _ _ K3.out (fun hHeld => ?_)
      clear hK K
      try simp only [Act.put, List.setIfInBounds_toArray, List.set_cons_zero, List.set_cons_succ]
      obtain ⟨g3, cap3, w3, hap, hown, hf⟩ := app_at w.heap.size 70 42 2 48 i0 _ Try.underlying70 hi hz0 hz1 hz2 rfl (by decide) w2 v k _ G2.out.1 [.slice B1 p d1, .slice B2 q d2] rfl (by intro u hu; simp at hu; rcases hu with rfl | rfl <;> rfl) (by omega) (by decide) HB2.out.size
      have h5 := st5.out w2 w3 B1 B2 d1 d2 g3 cap3 M2.out G2.out HB2.out HX2.out K2.out O12.out O2.out hown hf
      have HAP := Lib.hid hap
      have K5 := Lib.hid h5.1
      have M5 := Lib.hid h5.2.1
      have K6 := Lib.hid h5.2.2.1
      have H6 := Lib.hid h5.2.2.2
      clear hap hown hf h5
      refine wpAnyH_ready (rs := [21]) (by kernel_rfl) (by simp) ?_
      refine AllReadyH.cons (o := ?oi_1) ?hi_1 (fun K hK => ?_) AllReadyH.nil
      case hi_1 => first | (simp only [List.getElem?_toArray, List.getElem?_cons_zero, List.getElem?_cons_succ]; done) | (simp only [List.getElem?_toArray, List.getElem?_cons_zero, List.getElem?_cons_succ]; rfl)
      refine step_append_run rfl (.tmp 35) (.tmp 51) 70 rfl v (.slice (some ⟨w2.heap.size, 0, none⟩) 1 1) (.slice (some ⟨g3, 0, none⟩) (k + 1) cap3) w3 rfl rfl HAP ?_
      refine hK.out _ _ K5.out (fun hHeld => ?_)
      clear hK K
      try simp only [Act.put, List.setIfInBounds_toArray, List.set_cons_zero, List.set_cons_succ]
      refine wpAnyH_take (i := 22) (oi := ?oi_2) (v := ?_) ?hi_2 (by kernel_rfl) ?hf_2 (by kernel_rfl) ?hQ_2 ?hy_2 (by assumption) ?_
      case hi_2 => first | (simp only [List.getElem?_toArray, List.getElem?_cons_zero, List.getElem?_cons_succ]; done) | (simp only [List.getElem?_toArray, List.getElem?_cons_zero, List.getElem?_cons_succ]; rfl)
      case hf_2 => kernel_rfl
      case hQ_2 => exact fun _ _ _ h => h
      case hy_2 =>
        refine Or.inl ⟨by rfl, ?_⟩
        intro W hSw
        obtain ⟨q0, q1, q2⟩ := hSw
        go_simp
        try with_reducible rfl
      try simp only [Act.put, List.setIfInBounds_toArray, List.set_cons_zero, List.set_cons_succ]
      refine wpAnyH_take (i := 23) (oi := ?oi_3) (v := ?_) ?hi_3 (by kernel_rfl) ?hf_3 (by kernel_rfl) ?hQ_3 ?hy_3 (by assumption) ?_
      case hi_3 => first | (simp only [List.getElem?_toArray, List.getElem?_cons_zero, List.getElem?_cons_succ]; done) | (simp only [List.getElem?_toArray, List.getElem?_cons_zero, List.getElem?_cons_succ]; rfl)
      case hf_3 => kernel_rfl
      case hQ_3 => exact fun _ _ _ h => h
      case hy_3 =>
        refine Or.inl ⟨by rfl, ?_⟩
        intro W hSw
        obtain ⟨q0, q1, q2⟩ := hSw
        go_simp
        try with_reducible rfl
      try simp only [Act.put, List.setIfInBounds_toArray, List.set_cons_zero, List.set_cons_succ]
      refine wpAnyH_ready (rs := [24]) (by kernel_rfl) (by simp) ?_
      refine AllReadyH.cons (o := ?oi_4) ?hi_4 (fun K hK => ?_) AllReadyH.nil
      case hi_4 => first | (simp only [List.getElem?_toArray, List.getElem?_cons_zero, List.getElem?_cons_succ]; done) | (simp only [List.getElem?_toArray, List.getElem?_cons_zero, List.getElem?_cons_succ]; rfl)
      have xm := M5.out.cell 0
      have xz := M5.out.frozen 0
      go_simp
      clear xm xz
      refine hK.out _ _ K6.out (fun hHeld => ?_)
      clear hK K
      try simp only [Act.put, List.setIfInBounds_toArray, List.set_cons_zero, List.set_cons_succ]
      refine wpAnyH_done (by kernel_rfl) ?_ _
      clear hHeld
      go_wp2
      go_roundw
      case rel => exact ⟨k + 1, _, _, _, by omega, by go_num, Lib.hid H6.out.1, Lib.hid H6.out.2.1, Lib.hid H6.out.2.2.1, Lib.hid H6.out.2.2.2⟩
      case measure => simp [intOf]; omega
    · have e0 : n0 = k := by omega
      subst e0
      go_wp2
      obtain ⟨sv, hsv⟩ : ∃ sv, sv = v := ⟨_, rfl⟩
      subst hsv
      have HGS := HG
      clear HG
      go_loopw [5] (fun v5 wr => ∃ (k : Nat) (v : Value) (LV IV : Nat → Value) (S : Nat → Nat → Value), k ≤ n2 ∧ v5 = .int .i64 k ∧ Hid (Blk wr (w.heap.size + 1) 73 #[sv, .slice A1 n1 c1, v, .int .i64 tab, .slice A4 n4 c4, .slice A5 n5 c5, .slice A6 n6 c6, .int .i64 start, .slice A8 n8 c8, .slice A9 n9 c9]) ∧ Hid (FnM wr w.heap.size v k X2 LV IV S) ∧ Hid (SgM wr w.heap.size sv n0 X0 SP SR) ∧ Hid (Below w.heap.size w wr) ∧ Hid (Blk wr w.heap.size 31 #[.slice A0 n0 c0, .slice A1 n1 c1, .slice A2 n2 c2, .int .i64 tab, .slice A4 n4 c4, .slice A5 n5 c5, .slice A6 n6 c6, .int .i64 start, .slice A8 n8 c8, .slice A9 n9 c9])) (fun v5 _ => n2 - (intOf v5).toNat)
      case atStart => exact ⟨0, .slice none 0 0, fun _ => undef, fun _ => undef, fun _ _ => undef, Nat.zero_le _, rfl, HM, Lib.hid ⟨World.ownsRow_nil _ _ _ _, fun i hi => by omega⟩, HGS, HB, HBX⟩
      case round =>
        clear HM HGS HB HBX xb hlt hk
        obtain ⟨k, v, LV, IV, S, hk, rfl, HM, HG, HGS, HB, HBX⟩ := hrel
        have xb := HBX.out.cell 2
        by_cases hlt : k < n2
        · obtain ⟨b, off, rfl, hbl, hat⟩ := HX.out.r2.2.2 (by show 0 < n2; omega)
          obtain ⟨Ap, cp, Aq, cq, y0, y1, y2, hbp, hbq⟩ := fun_stay _ _ _ _ _ (hat k hlt) HB.out hbl
          have hdd := HD2.out k hlt
          obtain ⟨sg, hsg⟩ : ∃ sg, sg = (X2 k).sg := ⟨_, rfl⟩
          obtain ⟨lp, hlp⟩ : ∃ lp, lp = (X2 k).lc := ⟨_, rfl⟩
          obtain ⟨q, hq⟩ : ∃ q, q = (X2 k).m := ⟨_, rfl⟩
          obtain ⟨Z, hZ⟩ : ∃ Z, Z = (X2 k).X := ⟨_, rfl⟩
          rw [← hsg] at y0
          rw [← hlp] at y1 hbp hdd
          rw [← hq] at y2 hbq hdd
          rw [← hZ] at hbq hdd
          obtain ⟨p, hp⟩ : ∃ p, p = lp.length := ⟨_, rfl⟩
          rw [← hp] at y1 hbp hdd
          obtain ⟨hd1, hd2, hd3⟩ := hdd
          have hk0 : (fun W : World => W.cell? ⟨w.heap.size, 2, none⟩ = some (.slice (some ⟨b, off, none⟩) n2 c2) ∧ W.cell? ⟨b, off + k * 3, none⟩ = some (.int .i64 sg) ∧ W.cell? ⟨b, off + k * 3 + 1, none⟩ = some (.slice Ap p cp) ∧ W.cell? ⟨b, off + k * 3 + 2, none⟩ = some (.slice Aq q cq)) wr.drew := ⟨xb, y0, y1, y2⟩
          have hbD : Below w.heap.size w wr.drew := below_drew HB.out
          have hkeep : ∀ W W' : World, Blk W (w.heap.size + 1) 73 #[sv, .slice A1 n1 c1, v, .int .i64 tab, .slice A4 n4 c4, .slice A5 n5 c5, .slice A6 n6 c6, .int .i64 start, .slice A8 n8 c8, .slice A9 n9 c9] → Below w.heap.size w W → (fun W : World => W.cell? ⟨w.heap.size, 2, none⟩ = some (.slice (some ⟨b, off, none⟩) n2 c2) ∧ W.cell? ⟨b, off + k * 3, none⟩ = some (.int .i64 sg) ∧ W.cell? ⟨b, off + k * 3 + 1, none⟩ = some (.slice Ap p cp) ∧ W.cell? ⟨b, off + k * 3 + 2, none⟩ = some (.slice Aq q cq)) W → Below W.heap.size W W' → (fun W : World => W.cell? ⟨w.heap.size, 2, none⟩ = some (.slice (some ⟨b, off, none⟩) n2 c2) ∧ W.cell? ⟨b, off + k * 3, none⟩ = some (.int .i64 sg) ∧ W.cell? ⟨b, off + k * 3 + 1, none⟩ = some (.slice Ap p cp) ∧ W.cell? ⟨b, off + k * 3 + 2, none⟩ = some (.slice Aq q cq)) W' := fun W W' hM hW hS hb => by
            have l1 := hM.lt
            have l2 := hW.size
            exact ⟨(hb.cell (p := ⟨w.heap.size, 2, none⟩) (by show w.heap.size < _; omega)).trans hS.1, (hb.cell (p := ⟨b, off + k * 3, none⟩) (by show b < _; omega)).trans hS.2.1, (hb.cell (p := ⟨b, off + k * 3 + 1, none⟩) (by show b < _; omega)).trans hS.2.2.1, (hb.cell (p := ⟨b, off + k * 3 + 2, none⟩) (by show b < _; omega)).trans hS.2.2.2⟩
          have M0 : Hid (Blk wr.drew (w.heap.size + 1) 73 #[sv, .slice A1 n1 c1, v, .int .i64 tab, .slice A4 n4 c4, .slice A5 n5 c5, .slice A6 n6 c6, .int .i64 start, .slice A8 n8 c8, .slice A9 n9 c9]) := HM
          have st1 : Hid (∀ w1, Below wr.drew.heap.size wr.drew w1 → (fun W : World => W.cell? ⟨w.heap.size, 2, none⟩ = some (.slice (some ⟨b, off, none⟩) n2 c2) ∧ W.cell? ⟨b, off + k * 3, none⟩ = some (.int .i64 sg) ∧ W.cell? ⟨b, off + k * 3 + 1, none⟩ = some (.slice Ap p cp) ∧ W.cell? ⟨b, off + k * 3 + 2, none⟩ = some (.slice Aq q cq)) w1 ∧ Blk w1 (w.heap.size + 1) 73 #[sv, .slice A1 n1 c1, v, .int .i64 tab, .slice A4 n4 c4, .slice A5 n5 c5, .slice A6 n6 c6, .int .i64 start, .slice A8 n8 c8, .slice A9 n9 c9] ∧ FnM w1 w.heap.size v k X2 LV IV S ∧ Below w.heap.size w w1 ∧ SgM w1 w.heap.size sv n0 X0 SP SR ∧ Blk w1 w.heap.size 31 #[.slice A0 n0 c0, .slice A1 n1 c1, .slice (some ⟨b, off, none⟩) n2 c2, .int .i64 tab, .slice A4 n4 c4, .slice A5 n5 c5, .slice A6 n6 c6, .int .i64 start, .slice A8 n8 c8, .slice A9 n9 c9]) := Lib.hid (fun w1 h => by
            have h' := (below_drew (Below.refl wr.heap.size wr)).trans h
            exact ⟨hkeep _ _ M0.out hbD hk0 h, M0.out.below h M0.out.lt, HG.out.kept h', hbD.trans (h.mono hbD.size), HGS.out.kept h', HBX.out.below h' HBX.out.lt⟩)
          have st3 : Hid (∀ (w2 : World) (o : Obj), Blk w2 (w.heap.size + 1) 73 #[sv, .slice A1 n1 c1, v, .int .i64 tab, .slice A4 n4 c4, .slice A5 n5 c5, .slice A6 n6 c6, .int .i64 start, .slice A8 n8 c8, .slice A9 n9 c9] → Below w.heap.size w w2 → (fun W : World => W.cell? ⟨w.heap.size, 2, none⟩ = some (.slice (some ⟨b, off, none⟩) n2 c2) ∧ W.cell? ⟨b, off + k * 3, none⟩ = some (.int .i64 sg) ∧ W.cell? ⟨b, off + k * 3 + 1, none⟩ = some (.slice Ap p cp) ∧ W.cell? ⟨b, off + k * 3 + 2, none⟩ = some (.slice Aq q cq)) w2 → (fun W : World => W.cell? ⟨w.heap.size, 2, none⟩ = some (.slice (some ⟨b, off, none⟩) n2 c2) ∧ W.cell? ⟨b, off + k * 3, none⟩ = some (.int .i64 sg) ∧ W.cell? ⟨b, off + k * 3 + 1, none⟩ = some (.slice Ap p cp) ∧ W.cell? ⟨b, off + k * 3 + 2, none⟩ = some (.slice Aq q cq)) (w2.alloc o)) := Lib.hid (fun w2 o h1 h2 h3 => hkeep _ _ h1 h2 h3 ((Below.refl _ _).alloc (Nat.le_refl _) _))
          have st5 : Hid (∀ (w2 w3 : World) (B1 B2 : Option Addr) (d1 d2 g3 cap3 : Nat) (s1 : Nat → Value), Blk w2 (w.heap.size + 1) 73 #[sv, .slice A1 n1 c1, v, .int .i64 tab, .slice A4 n4 c4, .slice A5 n5 c5, .slice A6 n6 c6, .int .i64 start, .slice A8 n8 c8, .slice A9 n9 c9] → FnM w2 w.heap.size v k X2 LV IV S → SgM w2 w.heap.size sv n0 X0 SP SR → Below w.heap.size w w2 → Blk w2 w.heap.size 31 #[.slice A0 n0 c0, .slice A1 n1 c1, .slice (some ⟨b, off, none⟩) n2 c2, .int .i64 tab, .slice A4 n4 c4, .slice A5 n5 c5, .slice A6 n6 c6, .int .i64 start, .slice A8 n8 c8, .slice A9 n9 c9] → (fun W : World => W.cell? ⟨w.heap.size, 2, none⟩ = some (.slice (some ⟨b, off, none⟩) n2 c2) ∧ W.cell? ⟨b, off + k * 3, none⟩ = some (.int .i64 sg) ∧ W.cell? ⟨b, off + k * 3 + 1, none⟩ = some (.slice Ap p cp) ∧ W.cell? ⟨b, off + k * 3 + 2, none⟩ = some (.slice Aq q cq)) w2 →
              w2.ownsRow w.heap.size 76 1 (.slice B1 p d1) p (lp.map U8) → Made w2 w.heap.size (.slice B2 q d2) q Z s1 → w3.ownsRow w.heap.size 69 3 (.slice (some ⟨g3, 0, none⟩) (k + 1) cap3) (k + 1) (funC X2 LV IV k ++ [.int .i64 sg, .slice B1 p d1, .slice B2 q d2]) → Fr (fun g => v.ownBlock = some g) w2 w3 →
              (fun W : World => W.cell? ⟨w.heap.size, 2, none⟩ = some (.slice (some ⟨b, off, none⟩) n2 c2) ∧ W.cell? ⟨b, off + k * 3, none⟩ = some (.int .i64 sg) ∧ W.cell? ⟨b, off + k * 3 + 1, none⟩ = some (.slice Ap p cp) ∧ W.cell? ⟨b, off + k * 3 + 2, none⟩ = some (.slice Aq q cq)) w3 ∧ Blk w3 (w.heap.size + 1) 73 #[sv, .slice A1 n1 c1, v, .int .i64 tab, .slice A4 n4 c4, .slice A5 n5 c5, .slice A6 n6 c6, .int .i64 start, .slice A8 n8 c8, .slice A9 n9 c9] ∧ (fun W : World => W.cell? ⟨w.heap.size, 2, none⟩ = some (.slice (some ⟨b, off, none⟩) n2 c2) ∧ W.cell? ⟨b, off + k * 3, none⟩ = some (.int .i64 sg) ∧ W.cell? ⟨b, off + k * 3 + 1, none⟩ = some (.slice Ap p cp) ∧ W.cell? ⟨b, off + k * 3 + 2, none⟩ = some (.slice Aq q cq)) (w3.setCell ⟨w.heap.size + 1, 2, none⟩ (.slice (some ⟨g3, 0, none⟩) (k + 1) cap3)) ∧
              Blk (w3.setCell ⟨w.heap.size + 1, 2, none⟩ (.slice (some ⟨g3, 0, none⟩) (k + 1) cap3)) (w.heap.size + 1) 73 #[sv, .slice A1 n1 c1, (.slice (some ⟨g3, 0, none⟩) (k + 1) cap3), .int .i64 tab, .slice A4 n4 c4, .slice A5 n5 c5, .slice A6 n6 c6, .int .i64 start, .slice A8 n8 c8, .slice A9 n9 c9] ∧ FnM (w3.setCell ⟨w.heap.size + 1, 2, none⟩ (.slice (some ⟨g3, 0, none⟩) (k + 1) cap3)) w.heap.size (.slice (some ⟨g3, 0, none⟩) (k + 1) cap3) (k + 1) X2 (fun i => if i = k then .slice B1 p d1 else LV i) (fun i => if i = k then .slice B2 q d2 else IV i) (fun i => if i = k then s1 else S i) ∧
              SgM (w3.setCell ⟨w.heap.size + 1, 2, none⟩ (.slice (some ⟨g3, 0, none⟩) (k + 1) cap3)) w.heap.size sv n0 X0 SP SR ∧ Below w.heap.size w (w3.setCell ⟨w.heap.size + 1, 2, none⟩ (.slice (some ⟨g3, 0, none⟩) (k + 1) cap3)) ∧ Blk (w3.setCell ⟨w.heap.size + 1, 2, none⟩ (.slice (some ⟨g3, 0, none⟩) (k + 1) cap3)) w.heap.size 31 #[.slice A0 n0 c0, .slice A1 n1 c1, .slice (some ⟨b, off, none⟩) n2 c2, .int .i64 tab, .slice A4 n4 c4, .slice A5 n5 c5, .slice A6 n6 c6, .int .i64 start, .slice A8 n8 c8, .slice A9 n9 c9]) := Lib.hid (fun w2 w3 B1 B2 d1 d2 g3 cap3 s1 hM hG hGS hB hX hS o1 o2 o3 hf => by
            have hv : ∀ g, v.ownBlock = some g → w.heap.size ≤ g ∧ g ≠ w.heap.size + 1 ∧ g ≠ w.heap.size := fun g hg => by
              obtain ⟨cs, hc⟩ := own_ty hG.1 hg
              exact ⟨(hG.1.lt g hg).1, hc.ne_ hM (by decide), hc.ne_ hX (by decide)⟩
            have hM3 := hM.fr hf (fun e => (hv _ e).2.1 rfl)
            have hX3 := hX.fr hf (fun e => (hv _ e).2.2 rfl)
            have hB3 : Below w.heap.size w w3 := hf.below hB hB.size (fun g hg => (hv g hg).1)
            have hG3 := hG.snoc (by rw [← hlp, ← hp]; exact o1) (by rw [← hq, ← hZ]; exact o2) hf (by rw [← hsg]; exact o3)
            have hGS3 := hGS.fr hf (fun g cs e => by
              obtain ⟨c9, hc9⟩ := own_ty hG.1 e
              exact ⟨fun hc => hc.ne_ hc9 (by decide) rfl, fun hc => hc.ne_ hc9 (by decide) rfl⟩)
            have hs4 : Fr (fun g => g = w.heap.size + 1) w3 (w3.setCell ⟨w.heap.size + 1, 2, none⟩ (.slice (some ⟨g3, 0, none⟩) (k + 1) cap3)) := (Fr.refl (fun g => g = w.heap.size + 1) w3).set_ (p := ⟨w.heap.size + 1, 2, none⟩) rfl _
            have hX4 := hX3.fr hs4 (by omega)
            have hB4 : Below w.heap.size w (w3.setCell ⟨w.heap.size + 1, 2, none⟩ (.slice (some ⟨g3, 0, none⟩) (k + 1) cap3)) := hs4.below hB3 hB3.size (fun g hg => by omega)
            have ye : ∀ W, Below w.heap.size w W → W.cell? ⟨b, off + k * 3, none⟩ = some (.int .i64 sg) ∧ W.cell? ⟨b, off + k * 3 + 1, none⟩ = some (.slice Ap p cp) ∧ W.cell? ⟨b, off + k * 3 + 2, none⟩ = some (.slice Aq q cq) := fun W hW => by
              refine ⟨?_, ?_, ?_⟩
              · rw [hW.cell (p := ⟨b, off + k * 3, none⟩) hbl, ← hB.cell (p := ⟨b, off + k * 3, none⟩) hbl]; exact hS.2.1
              · rw [hW.cell (p := ⟨b, off + k * 3 + 1, none⟩) hbl, ← hB.cell (p := ⟨b, off + k * 3 + 1, none⟩) hbl]; exact hS.2.2.1
              · rw [hW.cell (p := ⟨b, off + k * 3 + 2, none⟩) hbl, ← hB.cell (p := ⟨b, off + k * 3 + 2, none⟩) hbl]; exact hS.2.2.2
            have bad : ∀ (E : Nat) (g : Nat) (cs : Array Value), E ≠ 73 → g = w.heap.size + 1 → ¬ Blk w3 g E cs := fun E g cs hE e hc => by subst e; exact hc.ne_ hM3 hE rfl
            exact ⟨⟨hX3.cell 2, ye _ hB3⟩, hM3, ⟨hX4.cell 2, ye _ hB4⟩, hM3.set_ 2 _, hG3.fr hs4 (fun g cs e => ⟨bad 69 g cs (by decide) e, bad 76 g cs (by decide) e, bad 104 g cs (by decide) e, bad 77 g cs (by decide) e⟩), hGS3.fr hs4 (fun g cs e => ⟨bad 42 g cs (by decide) e, bad 76 g cs (by decide) e⟩), hB4, hX4⟩)
          have HT1 := Lib.hid (To12_ok Ap Aq p cp q cq lp Z wr.drew (by omega) (by have := hd2; omega) (fun i hi => by have := hd3 i hi; omega) (hbp.below ⟨rfl, rfl, rfl, Nat.le_refl _, fun _ _ => rfl⟩) (hbq.below ⟨rfl, rfl, rfl, Nat.le_refl _, fun _ _ => rfl⟩))
          have K0 := Lib.hid hk0
          have HBD := Lib.hid hbD
          have HP := Lib.hid hp
          clear hkeep hk0 hbD hat hbp hbq y0 y1 y2 hp hq hlp hZ hsg hd3
          unfold BdP at HT1
          rw [← HP.out] at HT1
          go_upto_region 9 with fail
          refine wp_region_held_drew (S := (fun W : World => W.cell? ⟨w.heap.size, 2, none⟩ = some (.slice (some ⟨b, off, none⟩) n2 c2) ∧ W.cell? ⟨b, off + k * 3, none⟩ = some (.int .i64 sg) ∧ W.cell? ⟨b, off + k * 3 + 1, none⟩ = some (.slice Ap p cp) ∧ W.cell? ⟨b, off + k * 3 + 2, none⟩ = some (.slice Aq q cq))) (by kernel_rfl) K0.out (fun hHeld => ?_)
          refine wpAnyH_take (i := 0) (oi := ?oi_41) (v := ?_) ?hi_41 (by kernel_rfl) ?hf_41 (by kernel_rfl) ?hQ_41 ?hy_41 (by assumption) ?_
          case hi_41 => first | (simp only [List.getElem?_toArray, List.getElem?_cons_zero, List.getElem?_cons_succ]; done) | (simp only [List.getElem?_toArray, List.getElem?_cons_zero, List.getElem?_cons_succ]; rfl)
          case hf_41 => kernel_rfl
          case hQ_41 => exact fun _ _ _ h => h
          case hy_41 =>
            refine Or.inl ⟨by rfl, ?_⟩
            intro W hSw
            obtain ⟨q0, q1, q2, q3⟩ := hSw
            go_simp
            try with_reducible rfl
          try simp only [Act.put, List.setIfInBounds_toArray, List.set_cons_zero, List.set_cons_succ]
          refine wpAnyH_take (i := 1) (oi := ?oi_42) (v := ?_) ?hi_42 (by kernel_rfl) ?hf_42 (by kernel_rfl) ?hQ_42 ?hy_42 (by assumption) ?_
          case hi_42 => first | (simp only [List.getElem?_toArray, List.getElem?_cons_zero, List.getElem?_cons_succ]; done) | (simp only [List.getElem?_toArray, List.getElem?_cons_zero, List.getElem?_cons_succ]; rfl)
          case hf_42 => kernel_rfl
          case hQ_42 => exact fun _ _ _ h => h
          case hy_42 =>
            refine Or.inl ⟨by rfl, ?_⟩
            intro W hSw
            obtain ⟨q0, q1, q2, q3⟩ := hSw
            go_simp
            try with_reducible rfl
          try simp only [Act.put, List.setIfInBounds_toArray, List.set_cons_zero, List.set_cons_succ]
          refine wpAnyH_take (i := 2) (oi := ?oi_43) (v := ?_) ?hi_43 (by kernel_rfl) ?hf_43 (by kernel_rfl) ?hQ_43 ?hy_43 (by assumption) ?_
          case hi_43 => first | (simp only [List.getElem?_toArray, List.getElem?_cons_zero, List.getElem?_cons_succ]; done) | (simp only [List.getElem?_toArray, List.getElem?_cons_zero, List.getElem?_cons_succ]; rfl)
          case hf_43 => kernel_rfl
          case hQ_43 => exact fun _ _ _ h => h
          case hy_43 =>
            refine Or.inl ⟨by rfl, ?_⟩
            intro W hSw
            obtain ⟨q0, q1, q2, q3⟩ := hSw
            go_simp
            try with_reducible rfl
          try simp only [Act.put, List.setIfInBounds_toArray, List.set_cons_zero, List.set_cons_succ]
          refine wpAnyH_take (i := 3) (oi := ?oi_44) (v := ?_) ?hi_44 (by kernel_rfl) ?hf_44 (by kernel_rfl) ?hQ_44 ?hy_44 (by assumption) ?_
          case hi_44 => first | (simp only [List.getElem?_toArray, List.getElem?_cons_zero, List.getElem?_cons_succ]; done) | (simp only [List.getElem?_toArray, List.getElem?_cons_zero, List.getElem?_cons_succ]; rfl)
          case hf_44 => kernel_rfl
          case hQ_44 => exact fun _ _ _ h => h
          case hy_44 =>
            refine Or.inl ⟨by rfl, ?_⟩
            intro W hSw
            obtain ⟨q0, q1, q2, q3⟩ := hSw
            go_simp
            try with_reducible rfl
          try simp only [Act.put, List.setIfInBounds_toArray, List.set_cons_zero, List.set_cons_succ]
          refine wpAnyH_take (i := 5) (oi := ?oi_45) (v := ?_) ?hi_45 (by kernel_rfl) ?hf_45 (by kernel_rfl) ?hQ_45 ?hy_45 (by assumption) ?_
          case hi_45 => first | (simp only [List.getElem?_toArray, List.getElem?_cons_zero, List.getElem?_cons_succ]; done) | (simp only [List.getElem?_toArray, List.getElem?_cons_zero, List.getElem?_cons_succ]; rfl)
          case hf_45 => kernel_rfl
          case hQ_45 => exact fun _ _ _ h => h
          case hy_45 =>
            refine Or.inl ⟨by rfl, ?_⟩
            intro W hSw
            obtain ⟨q0, q1, q2, q3⟩ := hSw
            go_simp
            try with_reducible rfl
          try simp only [Act.put, List.setIfInBounds_toArray, List.set_cons_zero, List.set_cons_succ]
          refine wpAnyH_take (i := 6) (oi := ?oi_46) (v := ?_) ?hi_46 (by kernel_rfl) ?hf_46 (by kernel_rfl) ?hQ_46 ?hy_46 (by assumption) ?_
          case hi_46 => first | (simp only [List.getElem?_toArray, List.getElem?_cons_zero, List.getElem?_cons_succ]; done) | (simp only [List.getElem?_toArray, List.getElem?_cons_zero, List.getElem?_cons_succ]; rfl)
          case hf_46 => kernel_rfl
          case hQ_46 => exact fun _ _ _ h => h
          case hy_46 =>
            refine Or.inl ⟨by rfl, ?_⟩
            intro W hSw
            obtain ⟨q0, q1, q2, q3⟩ := hSw
            go_simp
            try with_reducible rfl
          try simp only [Act.put, List.setIfInBounds_toArray, List.set_cons_zero, List.set_cons_succ]
          refine wpAnyH_take (i := 7) (oi := ?oi_47) (v := ?_) ?hi_47 (by kernel_rfl) ?hf_47 (by kernel_rfl) ?hQ_47 ?hy_47 (by assumption) ?_
          case hi_47 => first | (simp only [List.getElem?_toArray, List.getElem?_cons_zero, List.getElem?_cons_succ]; done) | (simp only [List.getElem?_toArray, List.getElem?_cons_zero, List.getElem?_cons_succ]; rfl)
          case hf_47 => kernel_rfl
          case hQ_47 => exact fun _ _ _ h => h
          case hy_47 =>
            refine Or.inl ⟨by rfl, ?_⟩
            intro W hSw
            obtain ⟨q0, q1, q2, q3⟩ := hSw
            go_simp
            try with_reducible rfl
          try simp only [Act.put, List.setIfInBounds_toArray, List.set_cons_zero, List.set_cons_succ]
          refine wpAnyH_take (i := 8) (oi := ?oi_48) (v := ?_) ?hi_48 (by kernel_rfl) ?hf_48 (by kernel_rfl) ?hQ_48 ?hy_48 (by assumption) ?_
          case hi_48 => first | (simp only [List.getElem?_toArray, List.getElem?_cons_zero, List.getElem?_cons_succ]; done) | (simp only [List.getElem?_toArray, List.getElem?_cons_zero, List.getElem?_cons_succ]; rfl)
          case hf_48 => kernel_rfl
          case hQ_48 => exact fun _ _ _ h => h
          case hy_48 =>
            refine Or.inl ⟨by rfl, ?_⟩
            intro W hSw
            obtain ⟨q0, q1, q2, q3⟩ := hSw
            go_simp
            try with_reducible rfl
          try simp only [Act.put, List.setIfInBounds_toArray, List.set_cons_zero, List.set_cons_succ]
          refine wpAnyH_take (i := 9) (oi := ?oi_49) (v := ?_) ?hi_49 (by kernel_rfl) ?hf_49 (by kernel_rfl) ?hQ_49 ?hy_49 (by assumption) ?_
          case hi_49 => first | (simp only [List.getElem?_toArray, List.getElem?_cons_zero, List.getElem?_cons_succ]; done) | (simp only [List.getElem?_toArray, List.getElem?_cons_zero, List.getElem?_cons_succ]; rfl)
          case hf_49 => kernel_rfl
          case hQ_49 => exact fun _ _ _ h => h
          case hy_49 =>
            refine Or.inl ⟨by rfl, ?_⟩
            intro W hSw
            obtain ⟨q0, q1, q2, q3⟩ := hSw
            go_simp
            try with_reducible rfl
          try simp only [Act.put, List.setIfInBounds_toArray, List.set_cons_zero, List.set_cons_succ]
          refine wpAnyH_take (i := 10) (oi := ?oi_50) (v := ?_) ?hi_50 (by kernel_rfl) ?hf_50 (by kernel_rfl) ?hQ_50 ?hy_50 (by assumption) ?_
          case hi_50 => first | (simp only [List.getElem?_toArray, List.getElem?_cons_zero, List.getElem?_cons_succ]; done) | (simp only [List.getElem?_toArray, List.getElem?_cons_zero, List.getElem?_cons_succ]; rfl)
          case hf_50 => kernel_rfl
          case hQ_50 => exact fun _ _ _ h => h
          case hy_50 =>
            refine Or.inl ⟨by rfl, ?_⟩
            intro W hSw
            obtain ⟨q0, q1, q2, q3⟩ := hSw
            go_simp
            try with_reducible rfl
          try simp only [Act.put, List.setIfInBounds_toArray, List.set_cons_zero, List.set_cons_succ]
          refine wpAnyH_take (i := 11) (oi := ?oi_51) (v := ?_) ?hi_51 (by kernel_rfl) ?hf_51 (by kernel_rfl) ?hQ_51 ?hy_51 (by assumption) ?_
          case hi_51 => first | (simp only [List.getElem?_toArray, List.getElem?_cons_zero, List.getElem?_cons_succ]; done) | (simp only [List.getElem?_toArray, List.getElem?_cons_zero, List.getElem?_cons_succ]; rfl)
          case hf_51 => kernel_rfl
          case hQ_51 => exact fun _ _ _ h => h
          case hy_51 =>
            refine Or.inl ⟨by rfl, ?_⟩
            intro W hSw
            obtain ⟨q0, q1, q2, q3⟩ := hSw
            go_simp
            try with_reducible rfl
          try simp only [Act.put, List.setIfInBounds_toArray, List.set_cons_zero, List.set_cons_succ]
          refine wpAnyH_take (i := 12) (oi := ?oi_52) (v := ?_) ?hi_52 (by kernel_rfl) ?hf_52 (by kernel_rfl) ?hQ_52 ?hy_52 (by assumption) ?_
          case hi_52 => first | (simp only [List.getElem?_toArray, List.getElem?_cons_zero, List.getElem?_cons_succ]; done) | (simp only [List.getElem?_toArray, List.getElem?_cons_zero, List.getElem?_cons_succ]; rfl)
          case hf_52 => kernel_rfl
          case hQ_52 => exact fun _ _ _ h => h
          case hy_52 =>
            refine Or.inl ⟨by rfl, ?_⟩
            intro W hSw
            obtain ⟨q0, q1, q2, q3⟩ := hSw
            go_simp
            try with_reducible rfl
          try simp only [Act.put, List.setIfInBounds_toArray, List.set_cons_zero, List.set_cons_succ]
          refine wpAnyH_take (i := 13) (oi := ?oi_53) (v := ?_) ?hi_53 (by kernel_rfl) ?hf_53 (by kernel_rfl) ?hQ_53 ?hy_53 (by assumption) ?_
          case hi_53 => first | (simp only [List.getElem?_toArray, List.getElem?_cons_zero, List.getElem?_cons_succ]; done) | (simp only [List.getElem?_toArray, List.getElem?_cons_zero, List.getElem?_cons_succ]; rfl)
          case hf_53 => kernel_rfl
          case hQ_53 => exact fun _ _ _ h => h
          case hy_53 =>
            refine Or.inl ⟨by rfl, ?_⟩
            intro W hSw
            obtain ⟨q0, q1, q2, q3⟩ := hSw
            go_simp
            try with_reducible rfl
          try simp only [Act.put, List.setIfInBounds_toArray, List.set_cons_zero, List.set_cons_succ]
          refine wpAnyH_take (i := 14) (oi := ?oi_54) (v := ?_) ?hi_54 (by kernel_rfl) ?hf_54 (by kernel_rfl) ?hQ_54 ?hy_54 (by assumption) ?_
          case hi_54 => first | (simp only [List.getElem?_toArray, List.getElem?_cons_zero, List.getElem?_cons_succ]; done) | (simp only [List.getElem?_toArray, List.getElem?_cons_zero, List.getElem?_cons_succ]; rfl)
          case hf_54 => kernel_rfl
          case hQ_54 => exact fun _ _ _ h => h
          case hy_54 =>
            refine Or.inl ⟨by rfl, ?_⟩
            intro W hSw
            obtain ⟨q0, q1, q2, q3⟩ := hSw
            go_simp
            try with_reducible rfl
          try simp only [Act.put, List.setIfInBounds_toArray, List.set_cons_zero, List.set_cons_succ]
          refine wpAnyH_take (i := 15) (oi := ?oi_55) (v := ?_) ?hi_55 (by kernel_rfl) ?hf_55 (by kernel_rfl) ?hQ_55 ?hy_55 (by assumption) ?_
          case hi_55 => first | (simp only [List.getElem?_toArray, List.getElem?_cons_zero, List.getElem?_cons_succ]; done) | (simp only [List.getElem?_toArray, List.getElem?_cons_zero, List.getElem?_cons_succ]; rfl)
          case hf_55 => kernel_rfl
          case hQ_55 => exact fun _ _ _ h => h
          case hy_55 =>
            refine Or.inl ⟨by rfl, ?_⟩
            intro W hSw
            obtain ⟨q0, q1, q2, q3⟩ := hSw
            go_simp
            try with_reducible rfl
          try simp only [Act.put, List.setIfInBounds_toArray, List.set_cons_zero, List.set_cons_succ]
          refine wpAnyH_take (i := 16) (oi := ?oi_56) (v := ?_) ?hi_56 (by kernel_rfl) ?hf_56 (by kernel_rfl) ?hQ_56 ?hy_56 (by assumption) ?_
          case hi_56 => first | (simp only [List.getElem?_toArray, List.getElem?_cons_zero, List.getElem?_cons_succ]; done) | (simp only [List.getElem?_toArray, List.getElem?_cons_zero, List.getElem?_cons_succ]; rfl)
          case hf_56 => kernel_rfl
          case hQ_56 => exact fun _ _ _ h => h
          case hy_56 =>
            refine Or.inl ⟨by rfl, ?_⟩
            intro W hSw
            obtain ⟨q0, q1, q2, q3⟩ := hSw
            go_simp
            try with_reducible rfl
          try simp only [Act.put, List.setIfInBounds_toArray, List.set_cons_zero, List.set_cons_succ]
          refine wpAnyH_ready (rs := [4, 17]) (by kernel_rfl) (by simp) ?_
          refine AllReadyH.cons (o := ?oi_65) ?hi_65 (fun K hK => ?_) ?more_65
          case hi_65 => first | (simp only [List.getElem?_toArray, List.getElem?_cons_zero, List.getElem?_cons_succ]; done) | (simp only [List.getElem?_toArray, List.getElem?_cons_zero, List.getElem?_cons_succ]; rfl)
          rotate_left
          case more_65 =>
            refine AllReadyH.cons (o := ?oi_66) ?hi_66 (fun K hK => ?_) AllReadyH.nil
            case hi_66 => first | (simp only [List.getElem?_toArray, List.getElem?_cons_zero, List.getElem?_cons_succ]; done) | (simp only [List.getElem?_toArray, List.getElem?_cons_zero, List.getElem?_cons_succ]; rfl)
            go_simp
            (go_at_call 25
             with_reducible refine HT1.out.mono ?_
             rintro e w1 ⟨hb1, B1, d1, B2, d2, S1, rfl, ho1, hm1⟩
             have h1 := st1.out w1 hb1
             have K1 := Lib.hid h1.1
             have M1 := Lib.hid h1.2.1
             have G1 := Lib.hid h1.2.2.1
             have HB1 := Lib.hid h1.2.2.2.1
             have GS1 := Lib.hid h1.2.2.2.2.1
             have HX1 := Lib.hid h1.2.2.2.2.2
             have O1 := Lib.hid (own_base ho1 HBD.out.size)
             have O2 : Hid (Made w1 w.heap.size (.slice B2 q d2) q Z S1) := Lib.hid ⟨own_base hm1.1 HBD.out.size, fun i hi => own_base (hm1.2 i hi) HBD.out.size⟩
             clear h1 hb1 ho1 hm1)
            refine hK.out _ _ K1.out (fun hHeld => ?_)
            clear hK K
            try simp only [Act.put, List.setIfInBounds_toArray, List.set_cons_zero, List.set_cons_succ]
            refine wpAnyH_take (i := 18) (oi := ?oi_60) (v := ?_) ?hi_60 (by kernel_rfl) ?hf_60 (by kernel_rfl) ?hQ_60 ?hy_60 (by assumption) ?_
            case hi_60 => first | (simp only [List.getElem?_toArray, List.getElem?_cons_zero, List.getElem?_cons_succ]; done) | (simp only [List.getElem?_toArray, List.getElem?_cons_zero, List.getElem?_cons_succ]; rfl)
            case hf_60 => kernel_rfl
            case hQ_60 => exact fun _ _ _ h => h
            case hy_60 =>
              refine Or.inl ⟨by rfl, ?_⟩
              intro W hSw
              obtain ⟨q0, q1, q2, q3⟩ := hSw
              go_simp
              try with_reducible rfl
            try simp only [Act.put, List.setIfInBounds_toArray, List.set_cons_zero, List.set_cons_succ]
            refine wpAnyH_ready (rs := [4, 19]) (by kernel_rfl) (by simp) ?_
            refine AllReadyH.cons (o := ?oi_63) ?hi_63 (fun K hK => ?_) ?more_63
            case hi_63 => first | (simp only [List.getElem?_toArray, List.getElem?_cons_zero, List.getElem?_cons_succ]; done) | (simp only [List.getElem?_toArray, List.getElem?_cons_zero, List.getElem?_cons_succ]; rfl)
            rotate_left
            case more_63 =>
              refine AllReadyH.cons (o := ?oi_64) ?hi_64 (fun K hK => ?_) AllReadyH.nil
              case hi_64 => first | (simp only [List.getElem?_toArray, List.getElem?_cons_zero, List.getElem?_cons_succ]; done) | (simp only [List.getElem?_toArray, List.getElem?_cons_zero, List.getElem?_cons_succ]; rfl)
              go_simp
              have k3 := st3.out w1 (.cells #[.int .i64 sg, .slice B1 p d1, .slice B2 q d2] 69) M1.out HB1.out K1.out
              have m3 := M1.out.alloc (.cells #[.int .i64 sg, .slice B1 p d1, .slice B2 q d2] 69)
              have K2 := Lib.hid k3
              have M2 := Lib.hid m3
              clear k3 m3
              refine hK.out _ _ K2.out (fun hHeld => ?_)
              clear hK K
              try simp only [Act.put, List.setIfInBounds_toArray, List.set_cons_zero, List.set_cons_succ]
              refine wpAnyH_ready (rs := [4]) (by kernel_rfl) (by simp) ?_
              refine AllReadyH.cons (o := ?oi_62) ?hi_62 (fun K hK => ?_) AllReadyH.nil
              case hi_62 => first | (simp only [List.getElem?_toArray, List.getElem?_cons_zero, List.getElem?_cons_succ]; done) | (simp only [List.getElem?_toArray, List.getElem?_cons_zero, List.getElem?_cons_succ]; rfl)
              have xm := M2.out.cell 2
              go_simp
              clear xm
              refine hK.out _ _ K2.out (fun hHeld => ?_)
              clear hK K
              try simp only [Act.put, List.setIfInBounds_toArray, List.set_cons_zero, List.set_cons_succ]
              obtain ⟨g3, cap3, w3, hap, hown, hf⟩ := app_at w.heap.size 71 69 3 56 j0 _ Try.underlying71 hj hy0 hy1 hy2 rfl (by decide) w1 v k _ G1.out.1 [.int .i64 sg, .slice B1 p d1, .slice B2 q d2] rfl (by intro u hu; simp at hu; rcases hu with rfl | rfl | rfl <;> rfl) (by omega) (by decide) HB1.out.size
              have h5 := st5.out w1 w3 B1 B2 d1 d2 g3 cap3 S1 M1.out G1.out GS1.out HB1.out HX1.out K1.out O1.out O2.out hown hf
              have HAP := Lib.hid hap
              have K5 := Lib.hid h5.1
              have M5 := Lib.hid h5.2.1
              have K6 := Lib.hid h5.2.2.1
              have H6 := Lib.hid h5.2.2.2
              clear hap hown hf h5
              refine wpAnyH_ready (rs := [20]) (by kernel_rfl) (by simp) ?_
              refine AllReadyH.cons (o := ?oi_37) ?hi_37 (fun K hK => ?_) AllReadyH.nil
              case hi_37 => first | (simp only [List.getElem?_toArray, List.getElem?_cons_zero, List.getElem?_cons_succ]; done) | (simp only [List.getElem?_toArray, List.getElem?_cons_zero, List.getElem?_cons_succ]; rfl)
              refine step_append_run rfl (.tmp 66) (.tmp 81) 71 rfl v (.slice (some ⟨w1.heap.size, 0, none⟩) 1 1) (.slice (some ⟨g3, 0, none⟩) (k + 1) cap3) w3 rfl rfl HAP ?_
              refine hK.out _ _ K5.out (fun hHeld => ?_)
              clear hK K
              try simp only [Act.put, List.setIfInBounds_toArray, List.set_cons_zero, List.set_cons_succ]
              refine wpAnyH_take (i := 21) (oi := ?oi_38) (v := ?_) ?hi_38 (by kernel_rfl) ?hf_38 (by kernel_rfl) ?hQ_38 ?hy_38 (by assumption) ?_
              case hi_38 => first | (simp only [List.getElem?_toArray, List.getElem?_cons_zero, List.getElem?_cons_succ]; done) | (simp only [List.getElem?_toArray, List.getElem?_cons_zero, List.getElem?_cons_succ]; rfl)
              case hf_38 => kernel_rfl
              case hQ_38 => exact fun _ _ _ h => h
              case hy_38 =>
                refine Or.inl ⟨by rfl, ?_⟩
                intro W hSw
                obtain ⟨q0, q1, q2, q3⟩ := hSw
                go_simp
                try with_reducible rfl
              try simp only [Act.put, List.setIfInBounds_toArray, List.set_cons_zero, List.set_cons_succ]
              refine wpAnyH_take (i := 22) (oi := ?oi_39) (v := ?_) ?hi_39 (by kernel_rfl) ?hf_39 (by kernel_rfl) ?hQ_39 ?hy_39 (by assumption) ?_
              case hi_39 => first | (simp only [List.getElem?_toArray, List.getElem?_cons_zero, List.getElem?_cons_succ]; done) | (simp only [List.getElem?_toArray, List.getElem?_cons_zero, List.getElem?_cons_succ]; rfl)
              case hf_39 => kernel_rfl
              case hQ_39 => exact fun _ _ _ h => h
              case hy_39 =>
                refine Or.inl ⟨by rfl, ?_⟩
                intro W hSw
                obtain ⟨q0, q1, q2, q3⟩ := hSw
                go_simp
                try with_reducible rfl
              try simp only [Act.put, List.setIfInBounds_toArray, List.set_cons_zero, List.set_cons_succ]
              refine wpAnyH_ready (rs := [23]) (by kernel_rfl) (by simp) ?_
              refine AllReadyH.cons (o := ?oi_40) ?hi_40 (fun K hK => ?_) AllReadyH.nil
              case hi_40 => first | (simp only [List.getElem?_toArray, List.getElem?_cons_zero, List.getElem?_cons_succ]; done) | (simp only [List.getElem?_toArray, List.getElem?_cons_zero, List.getElem?_cons_succ]; rfl)
              have xm := M5.out.cell 2
              have xz := M5.out.frozen 2
              go_simp
              clear xm xz
              refine hK.out _ _ K6.out (fun hHeld => ?_)
              clear hK K
              try simp only [Act.put, List.setIfInBounds_toArray, List.set_cons_zero, List.set_cons_succ]
              refine wpAnyH_done (by kernel_rfl) ?_ _
              clear hHeld
              go_wp2
              go_roundw
              case rel => exact ⟨k + 1, _, _, _, _, by omega, by go_num, Lib.hid H6.out.1, Lib.hid H6.out.2.1, Lib.hid H6.out.2.2.1, Lib.hid H6.out.2.2.2.1, Lib.hid H6.out.2.2.2.2⟩
              case measure => simp [intOf]; omega
            have xm := M1.out.cell 2
            go_simp
            clear xm
            refine hK.out _ _ K1.out (fun hHeld => ?_)
            clear hK K
            try simp only [Act.put, List.setIfInBounds_toArray, List.set_cons_zero, List.set_cons_succ]
            refine wpAnyH_ready (rs := [19]) (by kernel_rfl) (by simp) ?_
            refine AllReadyH.cons (o := ?oi_61) ?hi_61 (fun K hK => ?_) AllReadyH.nil
            case hi_61 => first | (simp only [List.getElem?_toArray, List.getElem?_cons_zero, List.getElem?_cons_succ]; done) | (simp only [List.getElem?_toArray, List.getElem?_cons_zero, List.getElem?_cons_succ]; rfl)
            go_simp
            have k3 := st3.out w1 (.cells #[.int .i64 sg, .slice B1 p d1, .slice B2 q d2] 69) M1.out HB1.out K1.out
            have m3 := M1.out.alloc (.cells #[.int .i64 sg, .slice B1 p d1, .slice B2 q d2] 69)
            have K2 := Lib.hid k3
            have M2 := Lib.hid m3
            clear k3 m3
            refine hK.out _ _ K2.out (fun hHeld => ?_)
            clear hK K
            try simp only [Act.put, List.setIfInBounds_toArray, List.set_cons_zero, List.set_cons_succ]
            obtain ⟨g3, cap3, w3, hap, hown, hf⟩ := app_at w.heap.size 71 69 3 56 j0 _ Try.underlying71 hj hy0 hy1 hy2 rfl (by decide) w1 v k _ G1.out.1 [.int .i64 sg, .slice B1 p d1, .slice B2 q d2] rfl (by intro u hu; simp at hu; rcases hu with rfl | rfl | rfl <;> rfl) (by omega) (by decide) HB1.out.size
            have h5 := st5.out w1 w3 B1 B2 d1 d2 g3 cap3 S1 M1.out G1.out GS1.out HB1.out HX1.out K1.out O1.out O2.out hown hf
            have HAP := Lib.hid hap
            have K5 := Lib.hid h5.1
            have M5 := Lib.hid h5.2.1
            have K6 := Lib.hid h5.2.2.1
            have H6 := Lib.hid h5.2.2.2
            clear hap hown hf h5
            refine wpAnyH_ready (rs := [20]) (by kernel_rfl) (by simp) ?_
            refine AllReadyH.cons (o := ?oi_37) ?hi_37 (fun K hK => ?_) AllReadyH.nil
            case hi_37 => first | (simp only [List.getElem?_toArray, List.getElem?_cons_zero, List.getElem?_cons_succ]; done) | (simp only [List.getElem?_toArray, List.getElem?_cons_zero, List.getElem?_cons_succ]; rfl)
            refine step_append_run rfl (.tmp 66) (.tmp 81) 71 rfl v (.slice (some ⟨w1.heap.size, 0, none⟩) 1 1) (.slice (some ⟨g3, 0, none⟩) (k + 1) cap3) w3 rfl rfl HAP ?_
            refine hK.out _ _ K5.out (fun hHeld => ?_)
            clear hK K
            try simp only [Act.put, List.setIfInBounds_toArray, List.set_cons_zero, List.set_cons_succ]
            refine wpAnyH_take (i := 21) (oi := ?oi_38) (v := ?_) ?hi_38 (by kernel_rfl) ?hf_38 (by kernel_rfl) ?hQ_38 ?hy_38 (by assumption) ?_
            case hi_38 => first | (simp only [List.getElem?_toArray, List.getElem?_cons_zero, List.getElem?_cons_succ]; done) | (simp only [List.getElem?_toArray, List.getElem?_cons_zero, List.getElem?_cons_succ]; rfl)
            case hf_38 => kernel_rfl
            case hQ_38 => exact fun _ _ _ h => h
            case hy_38 =>
              refine Or.inl ⟨by rfl, ?_⟩
              intro W hSw
              obtain ⟨q0, q1, q2, q3⟩ := hSw
              go_simp
              try with_reducible rfl
            try simp only [Act.put, List.setIfInBounds_toArray, List.set_cons_zero, List.set_cons_succ]
            refine wpAnyH_take (i := 22) (oi := ?oi_39) (v := ?_) ?hi_39 (by kernel_rfl) ?hf_39 (by kernel_rfl) ?hQ_39 ?hy_39 (by assumption) ?_
            case hi_39 => first | (simp only [List.getElem?_toArray, List.getElem?_cons_zero, List.getElem?_cons_succ]; done) | (simp only [List.getElem?_toArray, List.getElem?_cons_zero, List.getElem?_cons_succ]; rfl)
            case hf_39 => kernel_rfl
            case hQ_39 => exact fun _ _ _ h => h
            case hy_39 =>
              refine Or.inl ⟨by rfl, ?_⟩
              intro W hSw
              obtain ⟨q0, q1, q2, q3⟩ := hSw
              go_simp
              try with_reducible rfl
            try simp only [Act.put, List.setIfInBounds_toArray, List.set_cons_zero, List.set_cons_succ]
            refine wpAnyH_ready (rs := [23]) (by kernel_rfl) (by simp) ?_
            refine AllReadyH.cons (o := ?oi_40) ?hi_40 (fun K hK => ?_) AllReadyH.nil
            case hi_40 => first | (simp only [List.getElem?_toArray, List.getElem?_cons_zero, List.getElem?_cons_succ]; done) | (simp only [List.getElem?_toArray, List.getElem?_cons_zero, List.getElem?_cons_succ]; rfl)
            have xm := M5.out.cell 2
            have xz := M5.out.frozen 2
            go_simp
            clear xm xz
            refine hK.out _ _ K6.out (fun hHeld => ?_)
            clear hK K
            try simp only [Act.put, List.setIfInBounds_toArray, List.set_cons_zero, List.set_cons_succ]
            refine wpAnyH_done (by kernel_rfl) ?_ _
            clear hHeld
            go_wp2
            go_roundw
            case rel => exact ⟨k + 1, _, _, _, _, by omega, by go_num, Lib.hid H6.out.1, Lib.hid H6.out.2.1, Lib.hid H6.out.2.2.1, Lib.hid H6.out.2.2.2.1, Lib.hid H6.out.2.2.2.2⟩
            case measure => simp [intOf]; omega
          have xm := M0.out.cell 2
          go_simp
          clear xm
          refine hK.out _ _ K0.out (fun hHeld => ?_)
          clear hK K
          try simp only [Act.put, List.setIfInBounds_toArray, List.set_cons_zero, List.set_cons_succ]
          refine wpAnyH_ready (rs := [17]) (by kernel_rfl) (by simp) ?_
          refine AllReadyH.cons (o := ?oi_59) ?hi_59 (fun K hK => ?_) AllReadyH.nil
          case hi_59 => first | (simp only [List.getElem?_toArray, List.getElem?_cons_zero, List.getElem?_cons_succ]; done) | (simp only [List.getElem?_toArray, List.getElem?_cons_zero, List.getElem?_cons_succ]; rfl)
          go_simp
          (go_at_call 25
           with_reducible refine HT1.out.mono ?_
           rintro e w1 ⟨hb1, B1, d1, B2, d2, S1, rfl, ho1, hm1⟩
           have h1 := st1.out w1 hb1
           have K1 := Lib.hid h1.1
           have M1 := Lib.hid h1.2.1
           have G1 := Lib.hid h1.2.2.1
           have HB1 := Lib.hid h1.2.2.2.1
           have GS1 := Lib.hid h1.2.2.2.2.1
           have HX1 := Lib.hid h1.2.2.2.2.2
           have O1 := Lib.hid (own_base ho1 HBD.out.size)
           have O2 : Hid (Made w1 w.heap.size (.slice B2 q d2) q Z S1) := Lib.hid ⟨own_base hm1.1 HBD.out.size, fun i hi => own_base (hm1.2 i hi) HBD.out.size⟩
           clear h1 hb1 ho1 hm1)
          refine hK.out _ _ K1.out (fun hHeld => ?_)
          clear hK K
          try simp only [Act.put, List.setIfInBounds_toArray, List.set_cons_zero, List.set_cons_succ]
          refine wpAnyH_take (i := 18) (oi := ?oi_57) (v := ?_) ?hi_57 (by kernel_rfl) ?hf_57 (by kernel_rfl) ?hQ_57 ?hy_57 (by assumption) ?_
          case hi_57 => first | (simp only [List.getElem?_toArray, List.getElem?_cons_zero, List.getElem?_cons_succ]; done) | (simp only [List.getElem?_toArray, List.getElem?_cons_zero, List.getElem?_cons_succ]; rfl)
          case hf_57 => kernel_rfl
          case hQ_57 => exact fun _ _ _ h => h
          case hy_57 =>
            refine Or.inl ⟨by rfl, ?_⟩
            intro W hSw
            obtain ⟨q0, q1, q2, q3⟩ := hSw
            go_simp
            try with_reducible rfl
          try simp only [Act.put, List.setIfInBounds_toArray, List.set_cons_zero, List.set_cons_succ]
          refine wpAnyH_ready (rs := [19]) (by kernel_rfl) (by simp) ?_
          refine AllReadyH.cons (o := ?oi_58) ?hi_58 (fun K hK => ?_) AllReadyH.nil
          case hi_58 => first | (simp only [List.getElem?_toArray, List.getElem?_cons_zero, List.getElem?_cons_succ]; done) | (simp only [List.getElem?_toArray, List.getElem?_cons_zero, List.getElem?_cons_succ]; rfl)
          go_simp
          have k3 := st3.out w1 (.cells #[.int .i64 sg, .slice B1 p d1, .slice B2 q d2] 69) M1.out HB1.out K1.out
          have m3 := M1.out.alloc (.cells #[.int .i64 sg, .slice B1 p d1, .slice B2 q d2] 69)
          have K2 := Lib.hid k3
          have M2 := Lib.hid m3
          clear k3 m3
          refine hK.out _ _ K2.out (fun hHeld => ?_)
          clear hK K
          try simp only [Act.put, List.setIfInBounds_toArray, List.set_cons_zero, List.set_cons_succ]
          obtain ⟨g3, cap3, w3, hap, hown, hf⟩ := app_at w.heap.size 71 69 3 56 j0 _ Try.underlying71 hj hy0 hy1 hy2 rfl (by decide) w1 v k _ G1.out.1 [.int .i64 sg, .slice B1 p d1, .slice B2 q d2] rfl (by intro u hu; simp at hu; rcases hu with rfl | rfl | rfl <;> rfl) (by omega) (by decide) HB1.out.size
          have h5 := st5.out w1 w3 B1 B2 d1 d2 g3 cap3 S1 M1.out G1.out GS1.out HB1.out HX1.out K1.out O1.out O2.out hown hf
          have HAP := Lib.hid hap
          have K5 := Lib.hid h5.1
          have M5 := Lib.hid h5.2.1
          have K6 := Lib.hid h5.2.2.1
          have H6 := Lib.hid h5.2.2.2
          clear hap hown hf h5
          refine wpAnyH_ready (rs := [20]) (by kernel_rfl) (by simp) ?_
          refine AllReadyH.cons (o := ?oi_37) ?hi_37 (fun K hK => ?_) AllReadyH.nil
          case hi_37 => first | (simp only [List.getElem?_toArray, List.getElem?_cons_zero, List.getElem?_cons_succ]; done) | (simp only [List.getElem?_toArray, List.getElem?_cons_zero, List.getElem?_cons_succ]; rfl)
          refine step_append_run rfl (.tmp 66) (.tmp 81) 71 rfl v (.slice (some ⟨w1.heap.size, 0, none⟩) 1 1) (.slice (some ⟨g3, 0, none⟩) (k + 1) cap3) w3 rfl rfl HAP ?_
          refine hK.out _ _ K5.out (fun hHeld => ?_)
          clear hK K
          try simp only [Act.put, List.setIfInBounds_toArray, List.set_cons_zero, List.set_cons_succ]
          refine wpAnyH_take (i := 21) (oi := ?oi_38) (v := ?_) ?hi_38 (by kernel_rfl) ?hf_38 (by kernel_rfl) ?hQ_38 ?hy_38 (by assumption) ?_
          case hi_38 => first | (simp only [List.getElem?_toArray, List.getElem?_cons_zero, List.getElem?_cons_succ]; done) | (simp only [List.getElem?_toArray, List.getElem?_cons_zero, List.getElem?_cons_succ]; rfl)
          case hf_38 => kernel_rfl
          case hQ_38 => exact fun _ _ _ h => h
          case hy_38 =>
            refine Or.inl ⟨by rfl, ?_⟩
            intro W hSw
            obtain ⟨q0, q1, q2, q3⟩ := hSw
            go_simp
            try with_reducible rfl
          try simp only [Act.put, List.setIfInBounds_toArray, List.set_cons_zero, List.set_cons_succ]
          refine wpAnyH_take (i := 22) (oi := ?oi_39) (v := ?_) ?hi_39 (by kernel_rfl) ?hf_39 (by kernel_rfl) ?hQ_39 ?hy_39 (by assumption) ?_
          case hi_39 => first | (simp only [List.getElem?_toArray, List.getElem?_cons_zero, List.getElem?_cons_succ]; done) | (simp only [List.getElem?_toArray, List.getElem?_cons_zero, List.getElem?_cons_succ]; rfl)
          case hf_39 => kernel_rfl
          case hQ_39 => exact fun _ _ _ h => h
          case hy_39 =>
            refine Or.inl ⟨by rfl, ?_⟩
            intro W hSw
            obtain ⟨q0, q1, q2, q3⟩ := hSw
            go_simp
            try with_reducible rfl
          try simp only [Act.put, List.setIfInBounds_toArray, List.set_cons_zero, List.set_cons_succ]
          refine wpAnyH_ready (rs := [23]) (by kernel_rfl) (by simp) ?_
          refine AllReadyH.cons (o := ?oi_40) ?hi_40 (fun K hK => ?_) AllReadyH.nil
          case hi_40 => first | (simp only [List.getElem?_toArray, List.getElem?_cons_zero, List.getElem?_cons_succ]; done) | (simp only [List.getElem?_toArray, List.getElem?_cons_zero, List.getElem?_cons_succ]; rfl)
          have xm := M5.out.cell 2
          have xz := M5.out.frozen 2
          go_simp
          clear xm xz
          refine hK.out _ _ K6.out (fun hHeld => ?_)
          clear hK K
          try simp only [Act.put, List.setIfInBounds_toArray, List.set_cons_zero, List.set_cons_succ]
          refine wpAnyH_done (by kernel_rfl) ?_ _
          clear hHeld
          go_wp2
          go_roundw
          case rel => exact ⟨k + 1, _, _, _, _, by omega, by go_num, Lib.hid H6.out.1, Lib.hid H6.out.2.1, Lib.hid H6.out.2.2.1, Lib.hid H6.out.2.2.2.1, Lib.hid H6.out.2.2.2.2⟩
          case measure => simp [intOf]; omega
        · have e0 : n2 = k := by omega
          subst e0
          go_wp2
          go_ret
          exact ⟨HB.out, w.heap.size + 1, sv, v, SP, SR, LV, IV, S, rfl, HM.out, Nat.le_succ _, HGS.out, HG.out⟩
end Go.Proofs.Ytackompihengfaa
