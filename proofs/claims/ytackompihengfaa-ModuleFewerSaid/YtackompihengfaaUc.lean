/-
  Unfit: what isn't as it must be: the whole; where it tells 0 all parts are as they must be.
-/
import Derived.Test.YtackompihengfaaUb0
import Derived.Test.YtackompihengfaaUb1
import Derived.Test.YtackompihengfaaUb2
import Derived.Test.YtackompihengfaaUb4
import Derived.Test.YtackompihengfaaUb5
import Derived.Test.YtackompihengfaaUb6
import Derived.Test.YtackompihengfaaUb8
import Derived.Test.YtackompihengfaaUb9
import Derived.BigQuiet
import Derived.Deep.RegionHeld3
import Derived.Deep.DeepCutAuto
import Derived.Deep.CutBlock
namespace Go.Proofs.Ytackompihengfaa
open Go.RowKit Go.PlainAid
set_option linter.unusedVariables false
set_option linter.unusedSimpArgs false
/-- what a fit module's parts are -/
structure MtFit (x : Mt) : Prop where
  n0 : x.s0.n ≤ 50
  l0 : ∀ i, i < x.s0.n → tyB (x.X0 i).P = true ∧ tyB (x.X0 i).R = true
  n1 : x.s1.n ≤ 20
  l1 : ∀ i, i < x.s1.n → nmB (x.X1 i).mo = true ∧ nmB (x.X1 i).nm = true ∧ 0 ≤ (x.X1 i).sg ∧ (x.X1 i).sg < x.s0.n
  na : x.s1.n + x.s2.n ≤ 100
  l2 : ∀ i, i < x.s2.n → 0 ≤ (x.X2 i).sg ∧ (x.X2 i).sg < x.s0.n
  tab : -1 ≤ x.tab ∧ x.tab ≤ 1000
  n4 : x.s4.n ≤ 4
  l4 : ∀ i, i < x.s4.n → 0 ≤ (x.X4 i).mn ∧ (x.X4 i).mn ≤ 65536 ∧ ((x.X4 i).mx < 0 ∨ ((x.X4 i).mn ≤ (x.X4 i).mx ∧ (x.X4 i).mx ≤ 65536))
  n5 : x.s5.n ≤ 50
  l5 : ∀ i, i < x.s5.n → (x.X5 i).ty = 126 ∨ ((x.X5 i).ty = 127 ∧ (x.X5 i).va ≤ 4294967295)
  n6 : x.s6.n ≤ 50
  l6 : ∀ i, i < x.s6.n → nmB (x.X6 i).nm = true ∧ (∀ k, k < i → (x.X6 k).nm ≠ (x.X6 i).nm) ∧ (((x.X6 i).kd = 0 ∧ 0 ≤ (x.X6 i).ix ∧ (x.X6 i).ix < ((x.s1.n + x.s2.n : Nat) : Int)) ∨ ((x.X6 i).kd = 1 ∧ 0 ≤ x.tab ∧ (x.X6 i).ix = 0) ∨ ((x.X6 i).kd = 2 ∧ 0 ≤ (x.X6 i).ix ∧ (x.X6 i).ix < x.s4.n) ∨ ((x.X6 i).kd = 3 ∧ 0 ≤ (x.X6 i).ix ∧ (x.X6 i).ix < x.s5.n))
  st : x.start = -1 ∨ (0 ≤ x.start ∧ x.start < ((x.s1.n + x.s2.n : Nat) : Int) ∧ (x.X0 (sgOf x x.start.toNat).toNat).P = [] ∧ (x.X0 (sgOf x x.start.toNat).toNat).R = [])
  n8 : x.s8.n ≤ 20
  l8 : ∀ i, i < x.s8.n → (x.X8 i).fs.length ≤ 20 ∧ 0 ≤ x.tab ∧ (x.X8 i).at_ ≤ 4294967295 ∧ ∀ j, j < (x.X8 i).fs.length → 0 ≤ (x.X8 i).fs.getD j 0 ∧ (x.X8 i).fs.getD j 0 < ((x.s1.n + x.s2.n : Nat) : Int)
  n9 : x.s9.n ≤ 20
  l9 : ∀ i, i < x.s9.n → (x.X9 i).bs.length ≤ 4096 ∧ 0 ≤ (x.X9 i).me ∧ (x.X9 i).me < x.s4.n ∧ ((x.X4 (x.X9 i).me.toNat).wd = true ∨ (x.X9 i).at_ ≤ 4294967295)
theorem results13 : Try.f13.results = #[.tmp 2, .tmp 3] := by kernel_rfl
def UnP (x : Mt) (w : World) (e : Ending) (w' : World) : Prop := Below w.heap.size w w' ∧ ∃ (s : ByteArray) (r : Int), e = .returned (.tuple #[.string s, .int .i64 r]) ∧ (r = 0 → MtFit x)
theorem un_ret {x : Mt} {w W0 w' : World} {t : Array Value} (hB0 : Below w.heap.size w W0) (h : UnR W0 t w') : bodyPost Try.prog Try.f13 (UnP x w) .ret ⟨t, []⟩ w' := by
  obtain ⟨hb, s, r, h2, h3, hr⟩ := h
  refine bodyPost_ret (results_tmp2 results13 _ _ _) rfl ?_
  refine ⟨hB0.trans (hb.mono hB0.size), s, r, ?_, fun e => absurd e hr⟩
  have e2 : t.getD 2 undef = .string s := by rw [Array.getD_eq_getD_getElem?, h2]; rfl
  have e3 : t.getD 3 undef = .int .i64 r := by rw [Array.getD_eq_getD_getElem?, h3]; rfl
  rw [e2, e3]
set_option maxHeartbeats 8000000 in
set_option maxRecDepth 1000000 in
theorem Unfit_ok (x : Mt) (w : World) (hx : MtAt w x) (hs : MtSm x) : Calls Try.prog 13 #[.agg x.cells] w (UnP x w) := by
  have HMF := Lib.hid (fun a b c d e f g h i j k l m n o p q r => (⟨a, b, c, d, e, f, g, h, i, j, k, l, m, n, o, p, q, r⟩ : MtFit x))
  have HLS := Lib.hid (fun (W : World) (hW : Below w.heap.size w W) (f j : Nat) => LSig_ok x f j W (hx.below hW))
  obtain ⟨⟨A0, n0, c0⟩, X0, ⟨A1, n1, c1⟩, X1, ⟨A2, n2, c2⟩, X2, tab, ⟨A4, n4, c4⟩, X4, ⟨A5, n5, c5⟩, X5, ⟨A6, n6, c6⟩, X6, start, ⟨A8, n8, c8⟩, X8, ⟨A9, n9, c9⟩, X9⟩ := x
  have b0 := hs.n0
  have b1 := hs.n1
  have b2 := hs.n2
  have b4 := hs.n4
  have b5 := hs.n5
  have b6 := hs.n6
  have b8 := hs.n8
  have b9 := hs.n9
  have hb0 : Below w.heap.size w (w.alloc (.cells #[.slice A0 n0 c0, .slice A1 n1 c1, .slice A2 n2 c2, .int .i64 tab, .slice A4 n4 c4, .slice A5 n5 c5, .slice A6 n6 c6, .int .i64 start, .slice A8 n8 c8, .slice A9 n9 c9] 31)) := (Below.refl _ _).alloc (Nat.le_refl _) _
  have HX := Lib.hid (hx.below hb0)
  have HD0 := Lib.hid hs.l0
  have HD1 := Lib.hid hs.l1
  have HD6 := Lib.hid hs.l6
  have HD8 := Lib.hid hs.l8
  have HD9 := Lib.hid hs.l9
  have HB0 := Lib.hid hb0
  have HBX : Hid (Blk (w.alloc (.cells #[.slice A0 n0 c0, .slice A1 n1 c1, .slice A2 n2 c2, .int .i64 tab, .slice A4 n4 c4, .slice A5 n5 c5, .slice A6 n6 c6, .int .i64 start, .slice A8 n8 c8, .slice A9 n9 c9] 31)) w.heap.size 31 #[.slice A0 n0 c0, .slice A1 n1 c1, .slice A2 n2 c2, .int .i64 tab, .slice A4 n4 c4, .slice A5 n5 c5, .slice A6 n6 c6, .int .i64 start, .slice A8 n8 c8, .slice A9 n9 c9]) := Lib.hid (Blk.new w 31 _)
  clear hx hb0 hs
  unfold Mt.cells Sv.v at HLS ⊢
  dsimp only at b0 b1 b2 b4 b5 b6 b8 b9 HD0 HD1 HD6 HD8 HD9 HMF HLS ⊢
  go_enter Try.func13, Try.ntmps13
  go_upto_region 1 with fail
  obtain ⟨W0, hW0⟩ : ∃ W, W = w.alloc (.cells #[.slice A0 n0 c0, .slice A1 n1 c1, .slice A2 n2 c2, .int .i64 tab, .slice A4 n4 c4, .slice A5 n5 c5, .slice A6 n6 c6, .int .i64 start, .slice A8 n8 c8, .slice A9 n9 c9] 31) := ⟨_, rfl⟩
  rw [← hW0] at HX HB0 HBX ⊢
  have HW0 := Lib.hid hW0
  clear hW0
  have HR0 : Hid (Row 2 SigAt W0 A0 n0 c0 X0) := Lib.hid HX.out.r0
  have HR1 : Hid (Row 3 ImpAt W0 A1 n1 c1 X1) := Lib.hid HX.out.r1
  have HR2 : Hid (Row 3 FunAt W0 A2 n2 c2 X2) := Lib.hid HX.out.r2
  have HR4 : Hid (Row 3 LimAt W0 A4 n4 c4 X4) := Lib.hid HX.out.r4
  have HR5 : Hid (Row 3 GlAt W0 A5 n5 c5 X5) := Lib.hid HX.out.r5
  have HR6 : Hid (Row 3 ExAt W0 A6 n6 c6 X6) := Lib.hid HX.out.r6
  have HR8 : Hid (Row 2 ElAt W0 A8 n8 c8 X8) := Lib.hid HX.out.r8
  have HR9 : Hid (Row 3 DaAt W0 A9 n9 c9 X9) := Lib.hid HX.out.r9
  obtain ⟨bx, hbx⟩ : ∃ bx, bx = w.heap.size := ⟨_, rfl⟩
  rw [← hbx] at HBX ⊢
  have HBXE := Lib.hid hbx
  clear hbx
  have hbx : bx < W0.heap.size := HBX.out.lt
  have x0 := HBX.out.cell 0
  have x1 := HBX.out.cell 1
  have x2 := HBX.out.cell 2
  obtain ⟨na, hna⟩ : ∃ na, na = n1 + n2 := ⟨_, rfl⟩
  have hna9 : na ≤ 135 := by omega
  have HNE := Lib.hid (show (n1 : Int) + (n2 : Int) = (na : Int) by omega)
  have HNA := Lib.hid hna
  clear hna
  by_cases k0 : n0 ≤ 50
  case neg =>
    go_wp2
    refine bodyPost_ret (results_tmp2 results13 _ _ _) rfl ?_
    exact ⟨HB0.out.trans ((Below.refl _ _).mono HB0.out.size), _, _, rfl, fun h => absurd h (by decide)⟩
  go_upto_block 0 with fail
  rw [HNE.out]
  have HBW : Hid (Below W0.heap.size W0 W0) := Lib.hid (Below.refl _ _)
  clear x0 x1 x2
  go_upto_block 0 with fail
  rename_i ha
  refine un0 HBW.out hbx (HBX.out.cell 0) HR0.out (by omega) (by omega) HD0.out _ _ _ _ _ _ _ _ _ _ _ _ _ _ _ _ _ _ _ _ _ _ _ _ _ _ _ _ _ _ _ _ _ _ _ _ _ _ _ _ _ _ _ _ _ _ _ _ _ _ _ _ _ _ _ _ _ _ _ _ _ _ _ _ _ _ _ _ _ _ _ _ _ _ _ _ _ _ _ _ _ _ _ _ _ _ _ _ _ _ _ _ _ _ _ _ _ _ _ _ _ _ _ _ _ _ _ _ _ _ _ _ _ _ _ _ _ _ _ _ _ _ _ _ _ _ _ _ _ _ _ _ _ _ _ _ _ _ _ _ _ _ _ _ _ _ _ _ _ _ _ _ _ _ _ _ _ _ _ _ _ _ _ _ _ _ _ _ _ _ _ _ _ _ _ _ _ _ _ _ _ _ _ _ _ _ _ _ _ _ _ _ _ _ _ _ _ _ _ _ _ _ _ _ _ _ _ _ _ _ _ _ _ _ _ _ _ _ _ _ _ _ _ _ _ _ _ _ _ _ _ _ _ _ _ _ _ _ _ _ _ _ _ _ _ _ _ _ _ _ _ _ _ _ _ _ _ _ _ _ _ _ _ _ _ _ _ _ _ _ _ _ _ _ _ _ _ _ _ _ _ _ _ _ _ _ _ _ _ _ _ _ _ _ _ _ _ _ _ _ _ _ _ _ _ _ _ _ _ _ _ _ _ _ _ _ _ _ _ _ _ _ _ _ _ _ _ _ _ _ _ _ _ _ _ _ _ _ _ _ _ _ _ _ _ _ _ _ _ _ _ _ _ _ _ _ _ _ _ _ _ _ _ _ _ _ _ _ _ _ _ _ _ _ _ _ _ _ _ _ _ _ _ _ _ _ _ _ _ _ _ (fun _ _ _ _ _ _ _ _ _ _ _ _ _ _ _ _ _ _ _ _ _ _ _ _ _ _ _ _ wz hz => ?_) (fun t wz hz => un_ret HB0.out hz)
  refine ha _ _ ?_
  clear ha
  obtain ⟨hbz, hf0⟩ := hz
  have HF0 := Lib.hid hf0
  have HBa := Lib.hid hbz
  clear hf0 hbz
  have x1 : wz.cell? ⟨bx, 1, none⟩ = some (.slice A1 n1 c1) := (HBa.out.cell (p := ⟨bx, 1, none⟩) hbx).trans (HBX.out.cell 1)
  by_cases k1 : n1 ≤ 20
  case neg =>
    go_wp2
    refine bodyPost_ret (results_tmp2 results13 _ _ _) rfl ?_
    exact ⟨HB0.out.trans (HBa.out.mono HB0.out.size), _, _, rfl, fun h => absurd h (by decide)⟩
  go_upto_block 2 with fail
  rename_i ha
  refine un1 HBa.out hbx (HBX.out.cell 1) (HBX.out.cell 0) HR1.out (by omega) (by omega) (by omega) HD1.out _ _ _ _ _ _ _ _ _ _ _ _ _ _ _ _ _ _ _ _ _ _ _ _ _ _ _ _ _ _ _ _ _ _ _ _ _ _ _ _ _ _ _ _ _ _ _ _ _ _ _ _ _ _ _ _ _ _ _ _ _ _ _ _ _ _ _ _ _ _ _ _ _ _ _ _ _ _ _ _ _ _ _ _ _ _ _ _ _ _ _ _ _ _ _ _ _ _ _ _ _ _ _ _ _ _ _ _ _ _ _ _ _ _ _ _ _ _ _ _ _ _ _ _ _ _ _ _ _ _ _ _ _ _ _ _ _ _ _ _ _ _ _ _ _ _ _ _ _ _ _ _ _ _ _ _ _ _ _ _ _ _ _ _ _ _ _ _ _ _ _ _ _ _ _ _ _ _ _ _ _ _ _ _ _ _ _ _ _ _ _ _ _ _ _ _ _ _ _ _ _ _ _ _ _ _ _ _ _ _ _ _ _ _ _ _ _ _ _ _ _ _ _ _ _ _ _ _ _ _ _ _ _ _ _ _ _ _ _ _ _ _ _ _ _ _ _ _ _ _ _ _ _ _ _ _ _ _ _ _ _ _ _ _ _ _ _ _ _ _ _ _ _ _ _ _ _ _ _ _ _ _ _ _ _ _ _ _ _ _ _ _ _ _ _ _ _ _ _ _ _ _ _ _ _ _ _ _ _ _ _ _ _ _ _ _ _ _ _ _ _ _ _ _ _ _ _ _ _ _ _ _ _ _ _ _ _ _ _ _ _ _ _ _ _ _ _ _ _ _ _ _ _ _ _ _ _ _ _ _ _ _ _ _ _ _ _ _ _ _ _ _ _ _ _ _ _ _ _ _ _ _ _ _ _ _ _ _ _ _ _ (fun _ _ _ _ _ _ _ _ _ _ _ _ _ _ _ _ _ _ _ _ _ _ _ _ _ _ _ _ _ _ _ _ _ _ _ _ _ _ _ wz hz => ?_) (fun t wz hz => un_ret HB0.out hz)
  refine ha _ _ ?_
  clear ha
  obtain ⟨hbz, hf1⟩ := hz
  have HF1 := Lib.hid hf1
  have HBb := Lib.hid hbz
  clear hf1 hbz
  clear x1
  by_cases ka : na ≤ 100
  case neg =>
    go_wp2
    refine bodyPost_ret (results_tmp2 results13 _ _ _) rfl ?_
    exact ⟨HB0.out.trans (HBb.out.mono HB0.out.size), _, _, rfl, fun h => absurd h (by decide)⟩
  go_upto_block 4 with fail
  rename_i ha
  refine un2 HBb.out hbx (HBX.out.cell 2) (HBX.out.cell 0) HR2.out (by omega) (by omega) (by omega) _ _ _ _ _ _ _ _ _ _ _ _ _ _ _ _ _ _ _ _ _ _ _ _ _ _ _ _ _ _ _ _ _ _ _ _ _ _ _ _ _ _ _ _ _ _ _ _ _ _ _ _ _ _ _ _ _ _ _ _ _ _ _ _ _ _ _ _ _ _ _ _ _ _ _ _ _ _ _ _ _ _ _ _ _ _ _ _ _ _ _ _ _ _ _ _ _ _ _ _ _ _ _ _ _ _ _ _ _ _ _ _ _ _ _ _ _ _ _ _ _ _ _ _ _ _ _ _ _ _ _ _ _ _ _ _ _ _ _ _ _ _ _ _ _ _ _ _ _ _ _ _ _ _ _ _ _ _ _ _ _ _ _ _ _ _ _ _ _ _ _ _ _ _ _ _ _ _ _ _ _ _ _ _ _ _ _ _ _ _ _ _ _ _ _ _ _ _ _ _ _ _ _ _ _ _ _ _ _ _ _ _ _ _ _ _ _ _ _ _ _ _ _ _ _ _ _ _ _ _ _ _ _ _ _ _ _ _ _ _ _ _ _ _ _ _ _ _ _ _ _ _ _ _ _ _ _ _ _ _ _ _ _ _ _ _ _ _ _ _ _ _ _ _ _ _ _ _ _ _ _ _ _ _ _ _ _ _ _ _ _ _ _ _ _ _ _ _ _ _ _ _ _ _ _ _ _ _ _ _ _ _ _ _ _ _ _ _ _ _ _ _ _ _ _ _ _ _ _ _ _ _ _ _ _ _ _ _ _ _ _ _ _ _ _ _ _ _ _ _ _ _ _ _ _ _ _ _ _ _ _ _ _ _ _ _ _ _ _ _ _ _ _ _ _ _ _ _ _ _ _ _ _ _ _ _ _ _ _ _ _ (fun _ _ _ _ _ _ _ _ _ _ _ _ _ _ _ _ _ _ _ _ _ wz hz => ?_) (fun t wz hz => un_ret HB0.out hz)
  refine ha _ _ ?_
  clear ha
  obtain ⟨hbz, hf2⟩ := hz
  have HF2 := Lib.hid hf2
  have HBc := Lib.hid hbz
  clear hf2 hbz
  have x3 : wz.cell? ⟨bx, 3, none⟩ = some (.int .i64 tab) := (HBc.out.cell (p := ⟨bx, 3, none⟩) hbx).trans (HBX.out.cell 3)
  have x4 : wz.cell? ⟨bx, 4, none⟩ = some (.slice A4 n4 c4) := (HBc.out.cell (p := ⟨bx, 4, none⟩) hbx).trans (HBX.out.cell 4)
  by_cases kt : tab < -1
  case pos =>
    go_wp2
    refine bodyPost_ret (results_tmp2 results13 _ _ _) rfl ?_
    exact ⟨HB0.out.trans (HBc.out.mono HB0.out.size), _, _, rfl, fun h => absurd h (by decide)⟩
  by_cases ku : 1000 < tab
  case pos =>
    go_wp2
    refine bodyPost_ret (results_tmp2 results13 _ _ _) rfl ?_
    exact ⟨HB0.out.trans (HBc.out.mono HB0.out.size), _, _, rfl, fun h => absurd h (by decide)⟩
  by_cases k4 : n4 ≤ 4
  case neg =>
    go_wp2
    refine bodyPost_ret (results_tmp2 results13 _ _ _) rfl ?_
    exact ⟨HB0.out.trans (HBc.out.mono HB0.out.size), _, _, rfl, fun h => absurd h (by decide)⟩
  go_upto_block 6 with fail
  rename_i ha
  refine un4 HBc.out hbx (HBX.out.cell 4) HR4.out (by omega) (by omega) _ _ _ _ _ _ _ _ _ _ _ _ _ _ _ _ _ _ _ _ _ _ _ _ _ _ _ _ _ _ _ _ _ _ _ _ _ _ _ _ _ _ _ _ _ _ _ _ _ _ _ _ _ _ _ _ _ _ _ _ _ _ _ _ _ _ _ _ _ _ _ _ _ _ _ _ _ _ _ _ _ _ _ _ _ _ _ _ _ _ _ _ _ _ _ _ _ _ _ _ _ _ _ _ _ _ _ _ _ _ _ _ _ _ _ _ _ _ _ _ _ _ _ _ _ _ _ _ _ _ _ _ _ _ _ _ _ _ _ _ _ _ _ _ _ _ _ _ _ _ _ _ _ _ _ _ _ _ _ _ _ _ _ _ _ _ _ _ _ _ _ _ _ _ _ _ _ _ _ _ _ _ _ _ _ _ _ _ _ _ _ _ _ _ _ _ _ _ _ _ _ _ _ _ _ _ _ _ _ _ _ _ _ _ _ _ _ _ _ _ _ _ _ _ _ _ _ _ _ _ _ _ _ _ _ _ _ _ _ _ _ _ _ _ _ _ _ _ _ _ _ _ _ _ _ _ _ _ _ _ _ _ _ _ _ _ _ _ _ _ _ _ _ _ _ _ _ _ _ _ _ _ _ _ _ _ _ _ _ _ _ _ _ _ _ _ _ _ _ _ _ _ _ _ _ _ _ _ _ _ _ _ _ _ _ _ _ _ _ _ _ _ _ _ _ _ _ _ _ _ _ _ _ _ _ _ _ _ _ _ _ _ _ _ _ _ _ _ _ _ _ _ _ _ _ _ _ _ _ _ _ _ _ _ _ _ _ _ _ _ _ _ _ _ _ _ _ _ _ _ _ _ _ _ _ _ _ _ _ _ _ (fun _ _ _ _ _ _ _ _ _ _ _ _ _ _ _ _ _ _ _ _ _ _ _ _ _ _ _ _ _ _ _ _ _ _ _ _ _ _ _ _ _ wz hz => ?_) (fun t wz hz => un_ret HB0.out hz)
  refine ha _ _ ?_
  clear ha
  obtain ⟨hbz, hf4⟩ := hz
  have HF4 := Lib.hid hf4
  have HBd := Lib.hid hbz
  clear hf4 hbz
  clear x3 x4
  have x5 : wz.cell? ⟨bx, 5, none⟩ = some (.slice A5 n5 c5) := (HBd.out.cell (p := ⟨bx, 5, none⟩) hbx).trans (HBX.out.cell 5)
  by_cases k5 : n5 ≤ 50
  case neg =>
    go_wp2
    refine bodyPost_ret (results_tmp2 results13 _ _ _) rfl ?_
    exact ⟨HB0.out.trans (HBd.out.mono HB0.out.size), _, _, rfl, fun h => absurd h (by decide)⟩
  go_upto_block 8 with fail
  rename_i ha
  refine un5 HBd.out hbx (HBX.out.cell 5) HR5.out (by omega) (by omega) _ _ _ _ _ _ _ _ _ _ _ _ _ _ _ _ _ _ _ _ _ _ _ _ _ _ _ _ _ _ _ _ _ _ _ _ _ _ _ _ _ _ _ _ _ _ _ _ _ _ _ _ _ _ _ _ _ _ _ _ _ _ _ _ _ _ _ _ _ _ _ _ _ _ _ _ _ _ _ _ _ _ _ _ _ _ _ _ _ _ _ _ _ _ _ _ _ _ _ _ _ _ _ _ _ _ _ _ _ _ _ _ _ _ _ _ _ _ _ _ _ _ _ _ _ _ _ _ _ _ _ _ _ _ _ _ _ _ _ _ _ _ _ _ _ _ _ _ _ _ _ _ _ _ _ _ _ _ _ _ _ _ _ _ _ _ _ _ _ _ _ _ _ _ _ _ _ _ _ _ _ _ _ _ _ _ _ _ _ _ _ _ _ _ _ _ _ _ _ _ _ _ _ _ _ _ _ _ _ _ _ _ _ _ _ _ _ _ _ _ _ _ _ _ _ _ _ _ _ _ _ _ _ _ _ _ _ _ _ _ _ _ _ _ _ _ _ _ _ _ _ _ _ _ _ _ _ _ _ _ _ _ _ _ _ _ _ _ _ _ _ _ _ _ _ _ _ _ _ _ _ _ _ _ _ _ _ _ _ _ _ _ _ _ _ _ _ _ _ _ _ _ _ _ _ _ _ _ _ _ _ _ _ _ _ _ _ _ _ _ _ _ _ _ _ _ _ _ _ _ _ _ _ _ _ _ _ _ _ _ _ _ _ _ _ _ _ _ _ _ _ _ _ _ _ _ _ _ _ _ _ _ _ _ _ _ _ _ _ _ _ _ _ _ _ _ _ _ _ _ _ _ _ _ _ _ _ _ _ _ _ (fun _ _ _ _ _ _ _ _ _ _ _ _ _ _ _ _ _ _ _ _ _ _ _ _ _ _ _ _ _ wz hz => ?_) (fun t wz hz => un_ret HB0.out hz)
  refine ha _ _ ?_
  clear ha
  obtain ⟨hbz, hf5⟩ := hz
  have HF5 := Lib.hid hf5
  have HBe := Lib.hid hbz
  clear hf5 hbz
  clear x5
  have x6 : wz.cell? ⟨bx, 6, none⟩ = some (.slice A6 n6 c6) := (HBe.out.cell (p := ⟨bx, 6, none⟩) hbx).trans (HBX.out.cell 6)
  by_cases k6 : n6 ≤ 50
  case neg =>
    go_wp2
    refine bodyPost_ret (results_tmp2 results13 _ _ _) rfl ?_
    exact ⟨HB0.out.trans (HBe.out.mono HB0.out.size), _, _, rfl, fun h => absurd h (by decide)⟩
  go_upto_block 10 with fail
  rename_i ha
  refine un6 HBe.out hbx (HBX.out.cell 6) (HBX.out.cell 3) (HBX.out.cell 4) (HBX.out.cell 5) HR6.out (by omega) (by omega) (by omega) (by omega) HD6.out _ _ _ _ _ _ _ _ _ _ _ _ _ _ _ _ _ _ _ _ _ _ _ _ _ _ _ _ _ _ _ _ _ _ _ _ _ _ _ _ _ _ _ _ _ _ _ _ _ _ _ _ _ _ _ _ _ _ _ _ _ _ _ _ _ _ _ _ _ _ _ _ _ _ _ _ _ _ _ _ _ _ _ _ _ _ _ _ _ _ _ _ _ _ _ _ _ _ _ _ _ _ _ _ _ _ _ _ _ _ _ _ _ _ _ _ _ _ _ _ _ _ _ _ _ _ _ _ _ _ _ _ _ _ _ _ _ _ _ _ _ _ _ _ _ _ _ _ _ _ _ _ _ _ _ _ _ _ _ _ _ _ _ _ _ _ _ _ _ _ _ _ _ _ _ _ _ _ _ _ _ _ _ _ _ _ _ _ _ _ _ _ _ _ _ _ _ _ _ _ _ _ _ _ _ _ _ _ _ _ _ _ _ _ _ _ _ _ _ _ _ _ _ _ _ _ _ _ _ _ _ _ _ _ _ _ _ _ _ _ _ _ _ _ _ _ _ _ _ _ _ _ _ _ _ _ _ _ _ _ _ _ _ _ _ _ _ _ _ _ _ _ _ _ _ _ _ _ _ _ _ _ _ _ _ _ _ _ _ _ _ _ _ _ _ _ _ _ _ _ _ _ _ _ _ _ _ _ _ _ _ _ _ _ _ _ _ _ _ _ _ _ _ _ _ _ _ _ _ _ _ _ _ _ _ _ _ _ _ _ _ _ _ _ _ _ _ _ _ _ _ _ _ _ _ _ _ _ _ _ _ _ _ _ _ _ _ _ _ _ _ _ _ _ _ _ _ _ _ _ _ _ _ _ _ _ _ _ _ _ _ (fun _ _ _ _ _ _ _ _ _ _ _ _ _ _ _ _ _ _ _ _ _ _ _ _ _ _ _ _ _ _ _ _ _ _ _ _ _ _ _ _ _ _ _ _ _ _ _ _ _ _ _ _ _ _ _ _ _ _ _ _ _ _ _ _ _ _ _ _ _ _ _ _ _ _ _ _ _ _ _ _ _ _ _ _ _ _ _ _ wz hz => ?_) (fun t wz hz => un_ret HB0.out hz)
  refine ha _ _ ?_
  clear ha
  obtain ⟨hbz, hf6⟩ := hz
  have HF6 := Lib.hid hf6
  have HBf := Lib.hid hbz
  clear hf6 hbz
  clear x6
  have x0 : wz.cell? ⟨bx, 0, none⟩ = some (.slice A0 n0 c0) := (HBf.out.cell (p := ⟨bx, 0, none⟩) hbx).trans (HBX.out.cell 0)
  have x1 : wz.cell? ⟨bx, 1, none⟩ = some (.slice A1 n1 c1) := (HBf.out.cell (p := ⟨bx, 1, none⟩) hbx).trans (HBX.out.cell 1)
  have x2 : wz.cell? ⟨bx, 2, none⟩ = some (.slice A2 n2 c2) := (HBf.out.cell (p := ⟨bx, 2, none⟩) hbx).trans (HBX.out.cell 2)
  have x3 : wz.cell? ⟨bx, 3, none⟩ = some (.int .i64 tab) := (HBf.out.cell (p := ⟨bx, 3, none⟩) hbx).trans (HBX.out.cell 3)
  have x4 : wz.cell? ⟨bx, 4, none⟩ = some (.slice A4 n4 c4) := (HBf.out.cell (p := ⟨bx, 4, none⟩) hbx).trans (HBX.out.cell 4)
  have x5 : wz.cell? ⟨bx, 5, none⟩ = some (.slice A5 n5 c5) := (HBf.out.cell (p := ⟨bx, 5, none⟩) hbx).trans (HBX.out.cell 5)
  have x6 : wz.cell? ⟨bx, 6, none⟩ = some (.slice A6 n6 c6) := (HBf.out.cell (p := ⟨bx, 6, none⟩) hbx).trans (HBX.out.cell 6)
  have x7 : wz.cell? ⟨bx, 7, none⟩ = some (.int .i64 start) := (HBf.out.cell (p := ⟨bx, 7, none⟩) hbx).trans (HBX.out.cell 7)
  have x8 : wz.cell? ⟨bx, 8, none⟩ = some (.slice A8 n8 c8) := (HBf.out.cell (p := ⟨bx, 8, none⟩) hbx).trans (HBX.out.cell 8)
  have x9 : wz.cell? ⟨bx, 9, none⟩ = some (.slice A9 n9 c9) := (HBf.out.cell (p := ⟨bx, 9, none⟩) hbx).trans (HBX.out.cell 9)
  by_cases ks : start = -1
  · have HST : Hid (start = -1 ∨ (0 ≤ start ∧ start < ((n1 + n2 : Nat) : Int) ∧ (X0 (sgOf ⟨⟨A0, n0, c0⟩, X0, ⟨A1, n1, c1⟩, X1, ⟨A2, n2, c2⟩, X2, tab, ⟨A4, n4, c4⟩, X4, ⟨A5, n5, c5⟩, X5, ⟨A6, n6, c6⟩, X6, start, ⟨A8, n8, c8⟩, X8, ⟨A9, n9, c9⟩, X9⟩ start.toNat).toNat).P = [] ∧ (X0 (sgOf ⟨⟨A0, n0, c0⟩, X0, ⟨A1, n1, c1⟩, X1, ⟨A2, n2, c2⟩, X2, tab, ⟨A4, n4, c4⟩, X4, ⟨A5, n5, c5⟩, X5, ⟨A6, n6, c6⟩, X6, start, ⟨A8, n8, c8⟩, X8, ⟨A9, n9, c9⟩, X9⟩ start.toNat).toNat).R = [])) := Lib.hid (.inl ks)
    subst ks
    go_upto_region 67 with fail
    clear x0 x1 x2 x3 x4 x5 x6 x7 x8 x9
    have x8 : wz.cell? ⟨bx, 8, none⟩ = some (.slice A8 n8 c8) := (HBf.out.cell (p := ⟨bx, 8, none⟩) hbx).trans (HBX.out.cell 8)
    by_cases k8 : n8 ≤ 20
    case neg =>
      go_wp2
      refine bodyPost_ret (results_tmp2 results13 _ _ _) rfl ?_
      exact ⟨HB0.out.trans (HBf.out.mono HB0.out.size), _, _, rfl, fun h => absurd h (by decide)⟩
    go_upto_block 14 with fail
    rename_i ha
    refine un8 HBf.out hbx (HBX.out.cell 8) (HBX.out.cell 3) HR8.out (by omega) (by omega) HD8.out _ _ _ _ _ _ _ _ _ _ _ _ _ _ _ _ _ _ _ _ _ _ _ _ _ _ _ _ _ _ _ _ _ _ _ _ _ _ _ _ _ _ _ _ _ _ _ _ _ _ _ _ _ _ _ _ _ _ _ _ _ _ _ _ _ _ _ _ _ _ _ _ _ _ _ _ _ _ _ _ _ _ _ _ _ _ _ _ _ _ _ _ _ _ _ _ _ _ _ _ _ _ _ _ _ _ _ _ _ _ _ _ _ _ _ _ _ _ _ _ _ _ _ _ _ _ _ _ _ _ _ _ _ _ _ _ _ _ _ _ _ _ _ _ _ _ _ _ _ _ _ _ _ _ _ _ _ _ _ _ _ _ _ _ _ _ _ _ _ _ _ _ _ _ _ _ _ _ _ _ _ _ _ _ _ _ _ _ _ _ _ _ _ _ _ _ _ _ _ _ _ _ _ _ _ _ _ _ _ _ _ _ _ _ _ _ _ _ _ _ _ _ _ _ _ _ _ _ _ _ _ _ _ _ _ _ _ _ _ _ _ _ _ _ _ _ _ _ _ _ _ _ _ _ _ _ _ _ _ _ _ _ _ _ _ _ _ _ _ _ _ _ _ _ _ _ _ _ _ _ _ _ _ _ _ _ _ _ _ _ _ _ _ _ _ _ _ _ _ _ _ _ _ _ _ _ _ _ _ _ _ _ _ _ _ _ _ _ _ _ _ _ _ _ _ _ _ _ _ _ _ _ _ _ _ _ _ _ _ _ _ _ _ _ _ _ _ _ _ _ _ _ _ _ _ _ _ _ _ _ _ _ _ _ _ _ _ _ _ _ _ _ _ _ _ _ _ _ _ _ _ _ _ _ _ _ _ _ _ _ _ (fun _ _ _ _ _ _ _ _ _ _ _ _ _ _ _ _ _ _ _ _ _ _ _ _ _ _ _ _ _ _ _ _ _ _ _ _ _ _ _ _ _ _ _ _ _ _ _ _ _ _ _ _ _ _ wz hz => ?_) (fun t wz hz => un_ret HB0.out hz)
    refine ha _ _ ?_
    clear ha
    obtain ⟨hbz, hf8⟩ := hz
    have HF8 := Lib.hid hf8
    have HBg := Lib.hid hbz
    clear hf8 hbz
    clear x8
    have x9 : wz.cell? ⟨bx, 9, none⟩ = some (.slice A9 n9 c9) := (HBg.out.cell (p := ⟨bx, 9, none⟩) hbx).trans (HBX.out.cell 9)
    by_cases k9 : n9 ≤ 20
    case neg =>
      go_wp2
      refine bodyPost_ret (results_tmp2 results13 _ _ _) rfl ?_
      exact ⟨HB0.out.trans (HBg.out.mono HB0.out.size), _, _, rfl, fun h => absurd h (by decide)⟩
    go_upto_block 18 with fail
    rename_i ha
    refine un9 HBg.out hbx (HBX.out.cell 9) (HBX.out.cell 4) HR9.out HR4.out (by omega) (by omega) (by omega) HD9.out _ _ _ _ _ _ _ _ _ _ _ _ _ _ _ _ _ _ _ _ _ _ _ _ _ _ _ _ _ _ _ _ _ _ _ _ _ _ _ _ _ _ _ _ _ _ _ _ _ _ _ _ _ _ _ _ _ _ _ _ _ _ _ _ _ _ _ _ _ _ _ _ _ _ _ _ _ _ _ _ _ _ _ _ _ _ _ _ _ _ _ _ _ _ _ _ _ _ _ _ _ _ _ _ _ _ _ _ _ _ _ _ _ _ _ _ _ _ _ _ _ _ _ _ _ _ _ _ _ _ _ _ _ _ _ _ _ _ _ _ _ _ _ _ _ _ _ _ _ _ _ _ _ _ _ _ _ _ _ _ _ _ _ _ _ _ _ _ _ _ _ _ _ _ _ _ _ _ _ _ _ _ _ _ _ _ _ _ _ _ _ _ _ _ _ _ _ _ _ _ _ _ _ _ _ _ _ _ _ _ _ _ _ _ _ _ _ _ _ _ _ _ _ _ _ _ _ _ _ _ _ _ _ _ _ _ _ _ _ _ _ _ _ _ _ _ _ _ _ _ _ _ _ _ _ _ _ _ _ _ _ _ _ _ _ _ _ _ _ _ _ _ _ _ _ _ _ _ _ _ _ _ _ _ _ _ _ _ _ _ _ _ _ _ _ _ _ _ _ _ _ _ _ _ _ _ _ _ _ _ _ _ _ _ _ _ _ _ _ _ _ _ _ _ _ _ _ _ _ _ _ _ _ _ _ _ _ _ _ _ _ _ _ _ _ _ _ _ _ _ _ _ _ _ _ _ _ _ _ _ _ _ _ _ _ _ _ _ _ _ _ _ _ _ _ _ _ _ _ _ _ _ _ _ _ _ _ _ _ _ _ (fun _ _ _ _ _ _ _ _ _ _ _ _ _ _ _ _ _ _ _ _ _ _ _ _ _ _ _ _ _ _ _ _ _ _ _ _ _ _ _ _ wz hz => ?_) (fun t wz hz => un_ret HB0.out hz)
    refine ha _ _ ?_
    clear ha
    obtain ⟨hbz, hf9⟩ := hz
    have HF9 := Lib.hid hf9
    have HBh := Lib.hid hbz
    clear hf9 hbz
    clear x9
    go_wp2
    refine bodyPost_ret (results_tmp2 results13 _ _ _) rfl ?_
    refine ⟨HB0.out.trans (HBh.out.mono HB0.out.size), _, _, rfl, fun _ => ?_⟩
    have hna := HNA.out
    subst hna
    exact HMF.out k0 HF0.out k1 HF1.out ka HF2.out ⟨by omega, by omega⟩ k4 HF4.out k5 HF5.out k6 HF6.out HST.out k8 HF8.out k9 HF9.out
  · have eks : (start != -1) = true := by simp [ks]
    have HTa := Lib.hid (fun W => in_any start na W)
    cases hI : (decide (0 ≤ start) && decide (start < (na : Int))) with
    | false =>
      rw [hI] at HTa
      clear hI HMF HLS
      go_wp2_with (go_at_call 15; (with_reducible refine (HTa.out _).mono ?_); rintro e w2 ⟨rfl, rfl⟩)
      refine bodyPost_ret (results_tmp2 results13 _ _ _) rfl ?_
      exact ⟨HB0.out.trans (HBf.out.mono HB0.out.size), _, _, rfl, fun h => absurd h (by decide)⟩
    | true =>
      rw [hI] at HTa
      rw [Bool.and_eq_true, decide_eq_true_eq, decide_eq_true_eq] at hI
      obtain ⟨sn, rfl⟩ := Int.eq_ofNat_of_zero_le hI.1
      have hsn : sn < n1 + n2 := by have := HNA.out; omega
      have HSG : Hid (∃ q : Nat, sgOf ⟨⟨A0, n0, c0⟩, X0, ⟨A1, n1, c1⟩, X1, ⟨A2, n2, c2⟩, X2, tab, ⟨A4, n4, c4⟩, X4, ⟨A5, n5, c5⟩, X5, ⟨A6, n6, c6⟩, X6, (sn : Int), ⟨A8, n8, c8⟩, X8, ⟨A9, n9, c9⟩, X9⟩ sn = (q : Int) ∧ q < n0) := Lib.hid (by
        unfold sgOf
        dsimp only
        split
        · rename_i hlt
          have h := HF1.out sn hlt
          exact ⟨((X1 sn).sg).toNat, by omega, by omega⟩
        · have h := HF2.out (sn - n1) (by omega)
          exact ⟨((X2 (sn - n1)).sg).toNat, by omega, by omega⟩)
      obtain ⟨q, hq, hq0⟩ := HSG.out
      have HLQ := Lib.hid (HLS.out wz (HB0.out.trans (HBf.out.mono HB0.out.size)) sn q hsn (by omega) (by omega) hq hq0)
      have HSQ := Lib.hid hq
      clear HLS hq HSG hI
      go_upto_region 64 with (go_at_call 15; (with_reducible refine (HTa.out _).mono ?_); rintro e w2 ⟨rfl, rfl⟩)
      go_wp2_with fail
      with_reducible refine HLQ.out.mono ?_
      intro e w2 hl
      unfold LSiP at hl
      obtain ⟨hbl, A, c, B, d, rfl, hyA, hyB⟩ := hl
      have hqd := HD0.out q hq0
      have hpc : (X0 q).P.length ≤ c ∧ c ≤ 9223372036854775807 := ⟨hyA.2.2.1, by have := hyA.2.2.2.1; unfold maxLen at this; omega⟩
      have hrc : (X0 q).R.length ≤ d ∧ d ≤ 9223372036854775807 := ⟨hyB.2.2.1, by have := hyB.2.2.2.1; unfold maxLen at this; omega⟩
      obtain ⟨p, hp⟩ : ∃ p, p = (X0 q).P.length := ⟨_, rfl⟩
      obtain ⟨r, hr⟩ : ∃ p, p = (X0 q).R.length := ⟨_, rfl⟩
      rw [← hp] at hqd hpc ⊢
      rw [← hr] at hqd hrc ⊢
      have HPR := Lib.hid (And.intro hp hr)
      have HBw := Lib.hid ((HBf.out.trans (hbl.mono HBf.out.size)).alloc (HBf.out.trans (hbl.mono HBf.out.size)).size (.cells #[.slice A p c, .slice B r d] 48))
      clear hp hr hyA hyB hbl x0 x1 x2 x3 x4 x5 x6 x7 x8 x9
      by_cases hz : p + r = 0
      case neg =>
        have hz1 : 0 < p + r := by omega
        go_wp2
        refine bodyPost_ret (results_tmp2 results13 _ _ _) rfl ?_
        exact ⟨HB0.out.trans (HBw.out.mono HB0.out.size), _, _, rfl, fun h => absurd h (by decide)⟩
      have hp0 : p = 0 := by omega
      have hr0 : r = 0 := by omega
      have HST : Hid ((sn : Int) = -1 ∨ (0 ≤ (sn : Int) ∧ (sn : Int) < ((n1 + n2 : Nat) : Int) ∧ (X0 (sgOf ⟨⟨A0, n0, c0⟩, X0, ⟨A1, n1, c1⟩, X1, ⟨A2, n2, c2⟩, X2, tab, ⟨A4, n4, c4⟩, X4, ⟨A5, n5, c5⟩, X5, ⟨A6, n6, c6⟩, X6, (sn : Int), ⟨A8, n8, c8⟩, X8, ⟨A9, n9, c9⟩, X9⟩ (sn : Int).toNat).toNat).P = [] ∧ (X0 (sgOf ⟨⟨A0, n0, c0⟩, X0, ⟨A1, n1, c1⟩, X1, ⟨A2, n2, c2⟩, X2, tab, ⟨A4, n4, c4⟩, X4, ⟨A5, n5, c5⟩, X5, ⟨A6, n6, c6⟩, X6, (sn : Int), ⟨A8, n8, c8⟩, X8, ⟨A9, n9, c9⟩, X9⟩ (sn : Int).toNat).toNat).R = [])) := Lib.hid (.inr ⟨by omega, by omega, by
        rw [Int.toNat_natCast, HSQ.out, Int.toNat_natCast]
        exact List.eq_nil_of_length_eq_zero (by rw [← HPR.out.1]; exact hp0), by
        rw [Int.toNat_natCast, HSQ.out, Int.toNat_natCast]
        exact List.eq_nil_of_length_eq_zero (by rw [← HPR.out.2]; exact hr0)⟩)
      clear hz hqd HPR
      subst hp0
      subst hr0
      have hsum : ¬ (0 : Int) < ((0 : Nat) : Int) + ((0 : Nat) : Int) := by omega
      go_upto_region 67 with fail
      obtain ⟨wz, hwz⟩ : ∃ wz, wz = w2.alloc (.cells #[.slice A 0 c, .slice B 0 d] 48) := ⟨_, rfl⟩
      rw [← hwz] at HBw ⊢
      have HBf := HBw
      clear hwz hsum HBw
      have x8 : wz.cell? ⟨bx, 8, none⟩ = some (.slice A8 n8 c8) := (HBf.out.cell (p := ⟨bx, 8, none⟩) hbx).trans (HBX.out.cell 8)
      by_cases k8 : n8 ≤ 20
      case neg =>
        go_wp2
        refine bodyPost_ret (results_tmp2 results13 _ _ _) rfl ?_
        exact ⟨HB0.out.trans (HBf.out.mono HB0.out.size), _, _, rfl, fun h => absurd h (by decide)⟩
      go_upto_block 14 with fail
      rename_i ha
      refine un8 HBf.out hbx (HBX.out.cell 8) (HBX.out.cell 3) HR8.out (by omega) (by omega) HD8.out _ _ _ _ _ _ _ _ _ _ _ _ _ _ _ _ _ _ _ _ _ _ _ _ _ _ _ _ _ _ _ _ _ _ _ _ _ _ _ _ _ _ _ _ _ _ _ _ _ _ _ _ _ _ _ _ _ _ _ _ _ _ _ _ _ _ _ _ _ _ _ _ _ _ _ _ _ _ _ _ _ _ _ _ _ _ _ _ _ _ _ _ _ _ _ _ _ _ _ _ _ _ _ _ _ _ _ _ _ _ _ _ _ _ _ _ _ _ _ _ _ _ _ _ _ _ _ _ _ _ _ _ _ _ _ _ _ _ _ _ _ _ _ _ _ _ _ _ _ _ _ _ _ _ _ _ _ _ _ _ _ _ _ _ _ _ _ _ _ _ _ _ _ _ _ _ _ _ _ _ _ _ _ _ _ _ _ _ _ _ _ _ _ _ _ _ _ _ _ _ _ _ _ _ _ _ _ _ _ _ _ _ _ _ _ _ _ _ _ _ _ _ _ _ _ _ _ _ _ _ _ _ _ _ _ _ _ _ _ _ _ _ _ _ _ _ _ _ _ _ _ _ _ _ _ _ _ _ _ _ _ _ _ _ _ _ _ _ _ _ _ _ _ _ _ _ _ _ _ _ _ _ _ _ _ _ _ _ _ _ _ _ _ _ _ _ _ _ _ _ _ _ _ _ _ _ _ _ _ _ _ _ _ _ _ _ _ _ _ _ _ _ _ _ _ _ _ _ _ _ _ _ _ _ _ _ _ _ _ _ _ _ _ _ _ _ _ _ _ _ _ _ _ _ _ _ _ _ _ _ _ _ _ _ _ _ _ _ _ _ _ _ _ _ _ _ _ _ _ _ _ _ _ _ _ _ _ _ _ _ _ (fun _ _ _ _ _ _ _ _ _ _ _ _ _ _ _ _ _ _ _ _ _ _ _ _ _ _ _ _ _ _ _ _ _ _ _ _ _ _ _ _ _ _ _ _ _ _ _ _ _ _ _ _ _ _ wz hz => ?_) (fun t wz hz => un_ret HB0.out hz)
      refine ha _ _ ?_
      clear ha
      obtain ⟨hbz, hf8⟩ := hz
      have HF8 := Lib.hid hf8
      have HBg := Lib.hid hbz
      clear hf8 hbz
      clear x8
      have x9 : wz.cell? ⟨bx, 9, none⟩ = some (.slice A9 n9 c9) := (HBg.out.cell (p := ⟨bx, 9, none⟩) hbx).trans (HBX.out.cell 9)
      by_cases k9 : n9 ≤ 20
      case neg =>
        go_wp2
        refine bodyPost_ret (results_tmp2 results13 _ _ _) rfl ?_
        exact ⟨HB0.out.trans (HBg.out.mono HB0.out.size), _, _, rfl, fun h => absurd h (by decide)⟩
      go_upto_block 18 with fail
      rename_i ha
      refine un9 HBg.out hbx (HBX.out.cell 9) (HBX.out.cell 4) HR9.out HR4.out (by omega) (by omega) (by omega) HD9.out _ _ _ _ _ _ _ _ _ _ _ _ _ _ _ _ _ _ _ _ _ _ _ _ _ _ _ _ _ _ _ _ _ _ _ _ _ _ _ _ _ _ _ _ _ _ _ _ _ _ _ _ _ _ _ _ _ _ _ _ _ _ _ _ _ _ _ _ _ _ _ _ _ _ _ _ _ _ _ _ _ _ _ _ _ _ _ _ _ _ _ _ _ _ _ _ _ _ _ _ _ _ _ _ _ _ _ _ _ _ _ _ _ _ _ _ _ _ _ _ _ _ _ _ _ _ _ _ _ _ _ _ _ _ _ _ _ _ _ _ _ _ _ _ _ _ _ _ _ _ _ _ _ _ _ _ _ _ _ _ _ _ _ _ _ _ _ _ _ _ _ _ _ _ _ _ _ _ _ _ _ _ _ _ _ _ _ _ _ _ _ _ _ _ _ _ _ _ _ _ _ _ _ _ _ _ _ _ _ _ _ _ _ _ _ _ _ _ _ _ _ _ _ _ _ _ _ _ _ _ _ _ _ _ _ _ _ _ _ _ _ _ _ _ _ _ _ _ _ _ _ _ _ _ _ _ _ _ _ _ _ _ _ _ _ _ _ _ _ _ _ _ _ _ _ _ _ _ _ _ _ _ _ _ _ _ _ _ _ _ _ _ _ _ _ _ _ _ _ _ _ _ _ _ _ _ _ _ _ _ _ _ _ _ _ _ _ _ _ _ _ _ _ _ _ _ _ _ _ _ _ _ _ _ _ _ _ _ _ _ _ _ _ _ _ _ _ _ _ _ _ _ _ _ _ _ _ _ _ _ _ _ _ _ _ _ _ _ _ _ _ _ _ _ _ _ _ _ _ _ _ _ _ _ _ _ _ _ _ _ _ (fun _ _ _ _ _ _ _ _ _ _ _ _ _ _ _ _ _ _ _ _ _ _ _ _ _ _ _ _ _ _ _ _ _ _ _ _ _ _ _ _ wz hz => ?_) (fun t wz hz => un_ret HB0.out hz)
      refine ha _ _ ?_
      clear ha
      obtain ⟨hbz, hf9⟩ := hz
      have HF9 := Lib.hid hf9
      have HBh := Lib.hid hbz
      clear hf9 hbz
      clear x9
      go_wp2
      refine bodyPost_ret (results_tmp2 results13 _ _ _) rfl ?_
      refine ⟨HB0.out.trans (HBh.out.mono HB0.out.size), _, _, rfl, fun _ => ?_⟩
      have hna := HNA.out
      subst hna
      exact HMF.out k0 HF0.out k1 HF1.out ka HF2.out ⟨by omega, by omega⟩ k4 HF4.out k5 HF5.out k6 HF6.out HST.out k8 HF8.out k9 HF9.out
end Go.Proofs.Ytackompihengfaa
