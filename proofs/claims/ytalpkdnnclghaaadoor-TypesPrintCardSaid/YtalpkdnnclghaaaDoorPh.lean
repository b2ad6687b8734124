/-
  Called with any three rows of bytes, grommetlaw09.TypesPrint returns true, the tables unicode/utf8.acceptRanges and unicode/utf8.first lying as the program's text lays them; no other condition.
-/
import Derived.Test.YtalpkdnnclghaaaDoorNp
import Derived.Test.YtalpkdnnclghaaaDoorCards
import Derived.Deep.RegionHeld3
import Derived.WalkKit
import Derived.ProofKit
import Derived.OpenShut
import Derived.ShutString
import Derived.ChangeOld
import Derived.Below
import Derived.ChangeMaps5
namespace Go.Proofs.YtalpkdnnclghaaaDoor
open Go.ChangeShapes Go.WideShapes Go.ChangeAt Go.RowKit
open Go.ChangeMaps (open_string shut_string)
set_option linter.unusedVariables false
set_option linter.unusedSimpArgs false

theorem tl_len3 (l : List Nat) : (tl l).length ≤ 4 * l.length := by
  induction l with
  | nil => simp [tl]
  | cons t l ih => have := nmL_len t; simp only [tl, List.length_cons, List.length_append]; omega
theorem jn_len3 (l : List Nat) : (jn l).length ≤ 4 * l.length := by
  cases l with
  | nil => simp [jn]
  | cons t l => have := nmL_len t; have := tl_len3 l; simp only [jn, List.length_cons, List.length_append]; omega
theorem sgT_len {l r : List Nat} {n m : Nat} (h0 : l.length = n) (h1 : r.length = m) (hn : n ≤ 30) (hm : m ≤ 30) : (sgT l r).length < 4294967281 := by
  have := jn_len3 l
  have := jn_len3 r
  simp only [sgT, List.length_append, List.length_cons, List.length_nil]
  omega
set_option maxHeartbeats 4000000 in
set_option maxRecDepth 100000 in
theorem print_long (A0 A1 A2 : Option Addr) (n0 n1 n2 c0 c1 c2 : Nat) (w : World) (hM : Mx w) (h : 30 < n0 ∨ 30 < n1 ∨ 30 < n2) :
    Calls Tryd.prog 3 #[.slice A0 n0 c0, .slice A1 n1 c1, .slice A2 n2 c2] w fun e w' => e = .returned (.bool true) ∧ Below w.heap.size w w' := by
  obtain ⟨m, h5, hm⟩ := hM
  have HA := Lib.hid (awake9_any m w h5 hm)
  clear hm h5
  by_cases k0 : 30 < n0
  · have k0' : (30 : Int) < (n0 : Int) := by omega
    clear h k0
    go_enter Tryd.func3, Tryd.ntmps3
    go_wp2_with (go_at_call 13; (with_reducible refine HA.out.mono ?_); rintro e w1 ⟨rfl, hb⟩; have HB := Lib.hid hb; clear hb)
    go_ret
    exact ⟨rfl, HB.out⟩
  · by_cases k1 : 30 < n1
    · have k0' : ¬ (30 : Int) < (n0 : Int) := by omega
      have k1' : (30 : Int) < (n1 : Int) := by omega
      clear h k0 k1
      go_enter Tryd.func3, Tryd.ntmps3
      go_wp2_with (go_at_call 13; (with_reducible refine HA.out.mono ?_); rintro e w1 ⟨rfl, hb⟩; have HB := Lib.hid hb; clear hb)
      go_ret
      exact ⟨rfl, HB.out⟩
    · have k2 : 30 < n2 := by omega
      have k0' : ¬ (30 : Int) < (n0 : Int) := by omega
      have k1' : ¬ (30 : Int) < (n1 : Int) := by omega
      have k2' : (30 : Int) < (n2 : Int) := by omega
      clear h k0 k1 k2
      go_enter Tryd.func3, Tryd.ntmps3
      go_wp2_with (go_at_call 13; (with_reducible refine HA.out.mono ?_); rintro e w1 ⟨rfl, hb⟩; have HB := Lib.hid hb; clear hb)
      go_ret
      exact ⟨rfl, HB.out⟩
set_option maxHeartbeats 8000000 in
set_option maxRecDepth 100000 in
theorem print_yes (A0 A1 A2 : Option Addr) (n0 n1 n2 c0 c1 c2 : Nat) (l0 l1 l2 : List Nat) (S0 : ByteArray) (d : Bool) (w : World) (hM : Mx w) (h0 : n0 ≤ 30) (h1 : n1 ≤ 30) (h2 : n2 ≤ 30)
    (y0 : Byt w A0 n0 c0 l0) (y1 : Byt w A1 n1 c1 l1) (y2 : Byt w A2 n2 c2 l2) (hq0 : okL l0 = true) (hq1 : okL l1 = true)
    (hS : S0 = ⟨(sgT l0 l1).toArray⟩) (hd : decide (l1 = l2) = d) :
    Calls Tryd.prog 3 #[.slice A0 n0 c0, .slice A1 n1 c1, .slice A2 n2 c2] w fun e w' => e = .returned (.bool true) ∧ Below w.heap.size w w' := by
  have HM := Lib.hid hM
  obtain ⟨m, h5, hm⟩ := hM
  have HA := Lib.hid (awake9_any m w h5 hm)
  have R0 := Lib.hid (fun W (b : Below w.heap.size w W) => hq0 ▸ lawRight_ok A0 n0 c0 l0 (by omega) W (y0.below b))
  have R1 := Lib.hid (fun W (b : Below w.heap.size w W) => hq1 ▸ lawRight_ok A1 n1 c1 l1 (by omega) W (y1.below b))
  have T0 := Lib.hid (fun W (b : Below w.heap.size w W) => To_ok A0 n0 c0 l0 (by omega) W (y0.below b))
  have T1 := Lib.hid (fun W (b : Below w.heap.size w W) => To_ok A1 n1 c1 l1 (by omega) W (y1.below b))
  have T2 := Lib.hid (fun W (b : Below w.heap.size w W) => To_ok A2 n2 c2 l2 (by omega) W (y2.below b))
  have C1 := Lib.hid (fun W (b : Below w.heap.size w W) => conv_byt (y1.below b))
  have C2 := Lib.hid (fun W (b : Below w.heap.size w W) => conv_byt (y2.below b))
  have D0 := Lib.hid (fun W (b : Below w.heap.size w W) => List_txt A0 n0 c0 l0 (by omega) W (y0.below b))
  have D1 := Lib.hid (fun W (b : Below w.heap.size w W) => List_txt A1 n1 c1 l1 (by omega) W (y1.below b))
  have z0 : (txtL l0).size ≤ 4002 := by have := txtL_size l0; have := y0.1; omega
  have z1 : (txtL l1).size ≤ 4002 := by have := txtL_size l1; have := y1.1; omega
  have F1 := Lib.hid (cat_ok (txtL l0) ⟨#[45, 62]⟩ (by have : (⟨#[45, 62]⟩ : ByteArray).size = 2 := rfl; omega))
  have F2 : Hid (Op.stringOp .add (txtL l0 ++ ⟨#[45, 62]⟩) (txtL l1) = pure (.string S0)) := Lib.hid (by
    rw [cat_ok (txtL l0 ++ ⟨#[45, 62]⟩) (txtL l1) (by have : (⟨#[45, 62]⟩ : ByteArray).size = 2 := rfl; rw [app_size]; omega), cat_eq, hS])
  have hst : (S0.toList == S0.toList) = true := by simp
  have k0 : ¬ (30 : Int) < (n0 : Int) := by omega
  have k1 : ¬ (30 : Int) < (n1 : Int) := by omega
  have k2 : ¬ (30 : Int) < (n2 : Int) := by omega
  have E0 := Lib.hid (hd ▸ str_eq l1 l2 y1.2.1 y2.2.1)
  have HX0 := Lib.hid y0.2.1
  have HX1 := Lib.hid y1.2.1
  have HX2 := Lib.hid y2.2.1
  have HL := Lib.hid (And.intro y0.1 (And.intro y1.1 y2.1))
  have HN := Lib.hid (And.intro h0 (And.intro h1 h2))
  have HD := Lib.hid hd
  have HQ := Lib.hid (And.intro hq0 hq1)
  have HSt := Lib.hid hS
  clear hm h5 y0 y1 y2 h0 h1 h2 hq0 hq1 hd hS z0 z1
  generalize txtL l0 = X0 at F1 F2 D0
  generalize txtL l1 = X1 at F2 D1
  go_enter Tryd.func3, Tryd.ntmps3
  go_wp2_with (first
    | (go_at_call 13; (with_reducible refine HA.out.mono ?_); rintro e w1 ⟨rfl, hb⟩; have HB := Lib.hid hb; clear hb)
    | (go_at_call 14; first
      | ((with_reducible refine (T0.out _ HB.out).mono ?_); (rintro e wa ⟨v, rfl, o, b⟩); (obtain ⟨Aa, ca, rfl⟩ := own_slice o)
         have YA := Lib.hid (Byt.own o HX0.out)
         have HBa := Lib.hid (HB.out.trans (b.mono HB.out.size))
         clear o b)
      | ((with_reducible refine (T1.out _ HBa.out).mono ?_); (rintro e wb ⟨v, rfl, o, b⟩); (obtain ⟨Ab, cb, rfl⟩ := own_slice o)
         have YA1 := Lib.hid (YA.out.below b)
         have YB := Lib.hid (Byt.own o HX1.out)
         have HBb := Lib.hid (HBa.out.trans (b.mono HBa.out.size))
         have HBb2 := Lib.hid (HBb.out.alloc HBb.out.size (Obj.cells #[Value.slice Aa l0.length ca, Value.slice Ab l1.length cb] 27))
         have KA := Lib.hid (Blk.new wb 27 #[Value.slice Aa l0.length ca, Value.slice Ab l1.length cb])
         clear o b YA)
      | ((with_reducible refine (T0.out _ HBb2.out).mono ?_); (rintro e wc ⟨v, rfl, o, b⟩); (obtain ⟨Ac, cc, rfl⟩ := own_slice o)
         have bb := ((Below.refl _ wb).alloc (Nat.le_refl _) (Obj.cells #[Value.slice Aa l0.length ca, Value.slice Ab l1.length cb] 27)).trans (b.mono (by simp))
         have YA2 := Lib.hid (YA1.out.below bb)
         have YB2 := Lib.hid (YB.out.below bb)
         have KA2 := Lib.hid (KA.out.below b (by simp))
         have YC := Lib.hid (Byt.own o HX0.out)
         have HBc := Lib.hid (HBb2.out.trans (b.mono HBb2.out.size))
         clear o b bb YA1 YB KA)
      | ((with_reducible refine (T2.out _ HBc.out).mono ?_); (rintro e wd ⟨v, rfl, o, b⟩); (obtain ⟨Ad, cd, rfl⟩ := own_slice o)
         have bb := b.trans (((Below.refl _ wd).alloc (Nat.le_refl _) (Obj.cells #[Value.slice Ac l0.length cc, Value.slice Ad l2.length cd] 27)).mono b.size)
         have KB := Lib.hid (Blk.new wd 27 #[Value.slice Ac l0.length cc, Value.slice Ad l2.length cd])
         have YD := Lib.hid ((Byt.own o HX2.out).below ((Below.refl _ wd).alloc (Nat.le_refl _) (Obj.cells #[Value.slice Ac l0.length cc, Value.slice Ad l2.length cd] 27)))
         have YA3 := Lib.hid (YA2.out.below bb)
         have YB3 := Lib.hid (YB2.out.below bb)
         have YC3 := Lib.hid (YC.out.below bb)
         have KA3 := Lib.hid ((KA2.out.below b KA2.out.lt).alloc (Obj.cells #[Value.slice Ac l0.length cc, Value.slice Ad l2.length cd] 27))
         have HBd := Lib.hid (HBc.out.trans (bb.mono HBc.out.size))
         have x0 := KA3.out.cell 0
         have x1 := KA3.out.cell 1
         clear o b bb YA2 YB2 YC KA2))
    | (go_at_call 15; first
      | ((with_reducible refine (R0.out _ HBd.out).mono ?_); rintro e w2 ⟨rfl, rfl⟩)
      | ((with_reducible refine (R1.out _ HBd.out).mono ?_); rintro e w2 ⟨rfl, rfl⟩)))
  have P1 : Hid (∀ W A B c d, Byt W A l0.length c l0 → Byt W B l1.length d l1 → Calls Tryd.prog 17 #[.agg #[.slice A l0.length c, .slice B l1.length d]] W fun e w' => e = .returned (.string S0) ∧ Below W.heap.size W w') := Lib.hid (fun W A B c d ha hb => by
    obtain ⟨z0, z1, z2⟩ := HL.out
    obtain ⟨n0', n1', n2'⟩ := HN.out
    have := SPrint_any A B l0.length c l1.length d l0 l1 (by omega) (by omega) W ha hb
    rwa [← HSt.out] at this)
  have PS : Hid (∀ W, Mx W → Calls Tryd.prog 16 #[.string S0] W (SgY l0 l1 W)) := Lib.hid (fun W hM => by
    obtain ⟨q0, q1⟩ := HQ.out
    obtain ⟨m, h5, hm⟩ := hM
    have h1 := sgL_txt l0 l1
    rw [q0, q1, if_pos (by rfl)] at h1
    rw [HSt.out]
    exact ParseSig_yes h1 (sgT_len HL.out.1 HL.out.2.1 HN.out.1 HN.out.2.1) m W h5 hm)
  clear R0 R1 T0 T1 T2 HA x0 x1
  go_wp2_with (first
    | (go_at_call 17; (with_reducible refine (P1.out _ _ _ _ _ YA3.out YB3.out).mono ?_); rintro e we ⟨rfl, b⟩
       have HBe := Lib.hid (HBd.out.trans (b.mono HBd.out.size))
       have HMe := Lib.hid (HM.out.below HBe.out)
       have YA4 := Lib.hid (YA3.out.below b)
       have YB4 := Lib.hid (YB3.out.below b)
       have YC4 := Lib.hid (YC3.out.below b)
       have YD4 := Lib.hid (YD.out.below b)
       have KA4 := Lib.hid (KA3.out.below b KA3.out.lt)
       have KB4 := Lib.hid (KB.out.below b KB.out.lt)
       clear b YA3 YB3 YC3 YD KA3 KB)
    | (go_at_call 16; (with_reducible refine (PS.out _ HMe.out).mono ?_); (rintro e wf ⟨Ax, cx, Bx, dx, rfl, hx, hy, b⟩)
       have YX := Lib.hid hx
       have YY := Lib.hid hy
       have HBf := Lib.hid (HBe.out.trans (b.mono HBe.out.size))
       have YA5 := Lib.hid (YA4.out.below b)
       have YB5 := Lib.hid (YB4.out.below b)
       have YC5 := Lib.hid (YC4.out.below b)
       have YD5 := Lib.hid (YD4.out.below b)
       have KA5 := Lib.hid (KA4.out.below b KA4.out.lt)
       have KB5 := Lib.hid (KB4.out.below b KB4.out.lt)
       clear b hx hy YA4 YB4 YC4 YD4 KA4 KB4))
  obtain ⟨W6, hW6⟩ : ∃ W6, W6 = wf.alloc (Obj.cells #[Value.slice Ax l0.length cx, Value.slice Bx l1.length dx] 27) := ⟨_, rfl⟩
  rw [← hW6]
  have b6 : Below wf.heap.size wf W6 := by rw [hW6]; exact (Below.refl _ wf).alloc (Nat.le_refl _) _
  have kx : Blk W6 wf.heap.size 27 #[Value.slice Ax l0.length cx, Value.slice Bx l1.length dx] := by rw [hW6]; exact Blk.new wf 27 _
  have HB6 : Hid (Below w.heap.size w W6) := Lib.hid (HBf.out.trans (b6.mono HBf.out.size))
  have YA6 := Lib.hid (YA5.out.below b6)
  have YB6 := Lib.hid (YB5.out.below b6)
  have YC6 := Lib.hid (YC5.out.below b6)
  have YD6 := Lib.hid (YD5.out.below b6)
  have YX6 := Lib.hid (YX.out.below b6)
  have YY6 := Lib.hid (YY.out.below b6)
  have ka := KA5.out.below b6 KA5.out.lt
  have kb := KB5.out.below b6 KB5.out.lt
  have HX9 : Hid (∀ W, Below W6.heap.size W6 W → W.cell? ⟨wb.heap.size, 0, none⟩ = some (Value.slice Aa l0.length ca) ∧ W.cell? ⟨wb.heap.size, 1, none⟩ = some (Value.slice Ab l1.length cb) ∧ W.cell? ⟨wd.heap.size, 0, none⟩ = some (Value.slice Ac l0.length cc) ∧ W.cell? ⟨wd.heap.size, 1, none⟩ = some (Value.slice Ad l2.length cd)) := Lib.hid (fun W h =>
    ⟨(ka.below h ka.lt).cell 0, (ka.below h ka.lt).cell 1, (kb.below h kb.lt).cell 0, (kb.below h kb.lt).cell 1⟩)
  have HXx : Hid (∀ W, Below W6.heap.size W6 W → Blk W wf.heap.size 27 #[Value.slice Ax l0.length cx, Value.slice Bx l1.length dx]) := Lib.hid (fun W h => kx.below h kx.lt)
  obtain ⟨z0, z1, z2⟩ := HL.out
  obtain ⟨n0', n1', n2'⟩ := HN.out
  have hd := HD.out
  have SR1 : Hid (∀ W, Below W6.heap.size W6 W → Calls Tryd.prog 18 #[.agg #[Value.slice Aa l0.length ca, Value.slice Ab l1.length cb]] W fun e w' => e = .returned (.bool true) ∧ Below W.heap.size W w') := Lib.hid (fun W h => by
    have := SRight_ok Aa Ab l0.length l1.length ca cb l0 l1 (by omega) (by omega) W (YA6.out.below h) (YB6.out.below h)
    rwa [HQ.out.1, HQ.out.2] at this)
  have SP1 : Hid (∀ W, Below W6.heap.size W6 W → Calls Tryd.prog 17 #[.agg #[Value.slice Aa l0.length ca, Value.slice Ab l1.length cb]] W fun e w' => e = .returned (.string S0) ∧ Below W.heap.size W w') := Lib.hid (fun W h => P1.out W _ _ _ _ (YA6.out.below h) (YB6.out.below h))
  have SS1 : Hid (∀ W, Below W6.heap.size W6 W → Calls Tryd.prog 20 #[.agg #[Value.slice Aa l0.length ca, Value.slice Ab l1.length cb], .agg #[Value.slice Ac l0.length cc, Value.slice Ad l2.length cd]] W fun e w' => e = .returned (.bool d) ∧ Below W.heap.size W w') := Lib.hid (fun W h => by
    have := SigSame_ok Aa Ab Ac Ad l0.length l1.length l0.length l2.length ca cb cc cd l0 l1 l0 l2 (by omega) (by omega) (by omega) (by omega) W (YA6.out.below h) (YB6.out.below h) (YC6.out.below h) (YD6.out.below h)
    rwa [hd, show decide (l0 = l0) = true by simp, Bool.true_and] at this)
  have SS2 : Hid (∀ W, Below W6.heap.size W6 W → Calls Tryd.prog 20 #[.agg #[Value.slice Ax l0.length cx, Value.slice Bx l1.length dx], .agg #[Value.slice Aa l0.length ca, Value.slice Ab l1.length cb]] W fun e w' => e = .returned (.bool true) ∧ Below W.heap.size W w') := Lib.hid (fun W h => by
    have := SigSame_ok Ax Bx Aa Ab l0.length l1.length l0.length l1.length cx dx ca cb l0 l1 l0 l1 (by omega) (by omega) (by omega) (by omega) W (YX6.out.below h) (YY6.out.below h) (YA6.out.below h) (YB6.out.below h)
    rwa [show decide (l0 = l0) = true by simp, show decide (l1 = l1) = true by simp, Bool.true_and] at this)
  have G1 : Hid (∀ W, Below W6.heap.size W6 W → Sem.run Tryd.prog (convert 22 9 (Value.slice A1 n1 c1)) W = .ok (.string (str l1)) W) := Lib.hid (fun W h => C1.out W (HB6.out.trans (h.mono HB6.out.size)))
  have G2 : Hid (∀ W, Below W6.heap.size W6 W → Sem.run Tryd.prog (convert 22 9 (Value.slice A2 n2 c2)) W = .ok (.string (str l2)) W) := Lib.hid (fun W h => C2.out W (HB6.out.trans (h.mono HB6.out.size)))
  have L0 : Hid (∀ W, Below W6.heap.size W6 W → Calls Tryd.prog 19 #[.slice A0 n0 c0] W fun e w' => e = .returned (.string X0) ∧ W = w') := Lib.hid (fun W h => D0.out W (HB6.out.trans (h.mono HB6.out.size)))
  have L1 : Hid (∀ W, Below W6.heap.size W6 W → Calls Tryd.prog 19 #[.slice A1 n1 c1] W fun e w' => e = .returned (.string X1) ∧ W = w') := Lib.hid (fun W h => D1.out W (HB6.out.trans (h.mono HB6.out.size)))
  have f1 := F1.out
  have f2 := F2.out
  have g0 := E0.out
  clear hW6 b6 kx ka kb z0 z1 z2 n0' n1' n2' hd HQ HD HSt YA6 YB6 YC6 YD6 YA5 YB5 YC5 YD5 KA5 KB5 C1 C2 D0 D1 E0 F1 F2 HN HL HX0 HX1 HX2 P1 PS HM HMe
  generalize str l1 = t1 at G1 g0
  generalize str l2 = t2 at G2 g0
  generalize wb.heap.size = bA at HX9
  generalize wd.heap.size = bB at HX9
  generalize wf.heap.size = bX at HXx
  have HD6 : Hid (Below W6.heap.size W6 W6.drew) := Lib.hid (bdD (Below.refl _ _))
  cases d
  ·
    refine wp_region_held_drew (S := (fun W => Below W6.heap.size W6 W)) (by kernel_rfl) HD6.out (fun hHeld => ?_)
    refine wpAnyH_take (i := 0) (oi := ?oi_1_0) (v := ?_) ?hi_1_0 (by kernel_rfl) ?hf_1_0 (by kernel_rfl) ?hQ_1_0 ?hy_1_0 (by assumption) ?_
    case hi_1_0 => simp only [List.getElem?_toArray, List.getElem?_cons_zero, List.getElem?_cons_succ]; rfl
    case hf_1_0 => kernel_rfl
    case hQ_1_0 => exact fun _ _ _ h => h
    case hy_1_0 =>
      refine Or.inl ⟨by rfl, ?_⟩
      intro W hSw
      have x0 := (HX9.out W hSw).1
      have x1 := (HX9.out W hSw).2.1
      go_simp
      try with_reducible rfl
    try simp only [Act.put, List.setIfInBounds_toArray, List.set_cons_zero, List.set_cons_succ]
    refine wpAnyH_take (i := 2) (oi := ?oi_2_0) (v := ?_) ?hi_2_0 (by kernel_rfl) ?hf_2_0 (by kernel_rfl) ?hQ_2_0 ?hy_2_0 (by assumption) ?_
    case hi_2_0 => simp only [List.getElem?_toArray, List.getElem?_cons_zero, List.getElem?_cons_succ]; rfl
    case hf_2_0 => kernel_rfl
    case hQ_2_0 => exact fun _ _ _ h => h
    case hy_2_0 =>
      refine Or.inl ⟨by rfl, ?_⟩
      intro W hSw
      go_simp
      try with_reducible rfl
    try simp only [Act.put, List.setIfInBounds_toArray, List.set_cons_zero, List.set_cons_succ]
    refine wpAnyH_ready (rs := [1]) (by kernel_rfl) (by simp) ?_
    refine AllReadyH.cons (o := ?oi_3_0) ?hi_3_0 (fun K hK => ?_) AllReadyH.nil
    case hi_3_0 => simp only [List.getElem?_toArray, List.getElem?_cons_zero, List.getElem?_cons_succ]; rfl
    go_simp
    (go_at_call 18
     with_reducible refine (SR1.out _ HD6.out).mono ?_
     rintro e wp ⟨rfl, hbn⟩
     have HBwp : Hid (Below W6.heap.size W6 wp) := Lib.hid (HD6.out.trans (hbn.mono HD6.out.size))
     clear hbn)
    refine hK.out _ _ HBwp.out (fun hHeld => ?_)
    clear hK K
    try simp only [Act.put, List.setIfInBounds_toArray, List.set_cons_zero, List.set_cons_succ]
    refine wpAnyH_take (i := 3) (oi := ?oi_4_0) (v := ?_) ?hi_4_0 (by kernel_rfl) ?hf_4_0 (by kernel_rfl) ?hQ_4_0 ?hy_4_0 (by assumption) ?_
    case hi_4_0 => simp only [List.getElem?_toArray, List.getElem?_cons_zero, List.getElem?_cons_succ]; rfl
    case hf_4_0 => kernel_rfl
    case hQ_4_0 => exact fun _ _ _ h => h
    case hy_4_0 =>
      refine Or.inl ⟨by rfl, ?_⟩
      intro W hSw
      go_simp
      try with_reducible rfl
    try simp only [Act.put, List.setIfInBounds_toArray, List.set_cons_zero, List.set_cons_succ]
    refine wpAnyH_take (i := 4) (oi := ?oi_5_0) (v := ?_) ?hi_5_0 (by kernel_rfl) ?hf_5_0 (by kernel_rfl) ?hQ_5_0 ?hy_5_0 (by assumption) ?_
    case hi_5_0 => simp only [List.getElem?_toArray, List.getElem?_cons_zero, List.getElem?_cons_succ]; rfl
    case hf_5_0 => kernel_rfl
    case hQ_5_0 => exact fun _ _ _ h => h
    case hy_5_0 =>
      refine Or.inl ⟨by rfl, ?_⟩
      intro W hSw
      go_simp
      try with_reducible rfl
    try simp only [Act.put, List.setIfInBounds_toArray, List.set_cons_zero, List.set_cons_succ]
    refine wpAnyH_take (i := 5) (oi := ?oi_6_0) (v := ?_) ?hi_6_0 (by kernel_rfl) ?hf_6_0 (by kernel_rfl) ?hQ_6_0 ?hy_6_0 (by assumption) ?_
    case hi_6_0 => simp only [List.getElem?_toArray, List.getElem?_cons_zero, List.getElem?_cons_succ]; rfl
    case hf_6_0 => kernel_rfl
    case hQ_6_0 => exact fun _ _ _ h => h
    case hy_6_0 =>
      refine Or.inl ⟨by rfl, ?_⟩
      intro W hSw
      have x0 := (HX9.out W hSw).1
      have x1 := (HX9.out W hSw).2.1
      go_simp
      try with_reducible rfl
    try simp only [Act.put, List.setIfInBounds_toArray, List.set_cons_zero, List.set_cons_succ]
    refine wpAnyH_take (i := 7) (oi := ?oi_7_0) (v := ?_) ?hi_7_0 (by kernel_rfl) ?hf_7_0 (by kernel_rfl) ?hQ_7_0 ?hy_7_0 (by assumption) ?_
    case hi_7_0 => simp only [List.getElem?_toArray, List.getElem?_cons_zero, List.getElem?_cons_succ]; rfl
    case hf_7_0 => kernel_rfl
    case hQ_7_0 => exact fun _ _ _ h => h
    case hy_7_0 =>
      refine Or.inl ⟨by rfl, ?_⟩
      intro W hSw
      go_simp
      try with_reducible rfl
    try simp only [Act.put, List.setIfInBounds_toArray, List.set_cons_zero, List.set_cons_succ]
    refine wpAnyH_take (i := 10) (oi := ?oi_8_0) (v := ?_) ?hi_8_0 (by kernel_rfl) ?hf_8_0 (by kernel_rfl) ?hQ_8_0 ?hy_8_0 (by assumption) ?_
    case hi_8_0 => simp only [List.getElem?_toArray, List.getElem?_cons_zero, List.getElem?_cons_succ]; rfl
    case hf_8_0 => kernel_rfl
    case hQ_8_0 => exact fun _ _ _ h => h
    case hy_8_0 =>
      refine Or.inl ⟨by rfl, ?_⟩
      intro W hSw
      go_simp
      try with_reducible rfl
    try simp only [Act.put, List.setIfInBounds_toArray, List.set_cons_zero, List.set_cons_succ]
    refine wpAnyH_ready (rs := [6]) (by kernel_rfl) (by simp) ?_
    refine AllReadyH.cons (o := ?oi_9_0) ?hi_9_0 (fun K hK => ?_) AllReadyH.nil
    case hi_9_0 => simp only [List.getElem?_toArray, List.getElem?_cons_zero, List.getElem?_cons_succ]; rfl
    go_simp
    (go_at_call 17
     with_reducible refine (SP1.out _ HBwp.out).mono ?_
     rintro e wq ⟨rfl, hbn⟩
     have HBwq : Hid (Below W6.heap.size W6 wq) := Lib.hid (HBwp.out.trans (hbn.mono HBwp.out.size))
     clear hbn)
    refine hK.out _ _ HBwq.out (fun hHeld => ?_)
    clear hK K
    try simp only [Act.put, List.setIfInBounds_toArray, List.set_cons_zero, List.set_cons_succ]
    refine wpAnyH_ready (rs := [8]) (by kernel_rfl) (by simp) ?_
    refine AllReadyH.cons (o := ?oi_10_0) ?hi_10_0 (fun K hK => ?_) AllReadyH.nil
    case hi_10_0 => simp only [List.getElem?_toArray, List.getElem?_cons_zero, List.getElem?_cons_succ]; rfl
    go_simp
    (go_at_call 19
     with_reducible refine (L0.out _ HBwq.out).mono ?_
     rintro e wz ⟨rfl, rfl⟩)
    refine hK.out _ _ HBwq.out (fun hHeld => ?_)
    clear hK K
    try simp only [Act.put, List.setIfInBounds_toArray, List.set_cons_zero, List.set_cons_succ]
    refine wpAnyH_take (i := 9) (oi := ?oi_11_0) (v := ?_) ?hi_11_0 (by kernel_rfl) ?hf_11_0 (by kernel_rfl) ?hQ_11_0 ?hy_11_0 (by assumption) ?_
    case hi_11_0 => simp only [List.getElem?_toArray, List.getElem?_cons_zero, List.getElem?_cons_succ]; rfl
    case hf_11_0 => kernel_rfl
    case hQ_11_0 => exact fun _ _ _ h => h
    case hy_11_0 =>
      refine Or.inl ⟨by rfl, ?_⟩
      intro W hSw
      go_simp
      try with_reducible rfl
    try simp only [Act.put, List.setIfInBounds_toArray, List.set_cons_zero, List.set_cons_succ]
    refine wpAnyH_ready (rs := [11]) (by kernel_rfl) (by simp) ?_
    refine AllReadyH.cons (o := ?oi_12_0) ?hi_12_0 (fun K hK => ?_) AllReadyH.nil
    case hi_12_0 => simp only [List.getElem?_toArray, List.getElem?_cons_zero, List.getElem?_cons_succ]; rfl
    go_simp
    (go_at_call 19
     with_reducible refine (L1.out _ HBwq.out).mono ?_
     rintro e wz ⟨rfl, rfl⟩)
    refine hK.out _ _ HBwq.out (fun hHeld => ?_)
    clear hK K
    try simp only [Act.put, List.setIfInBounds_toArray, List.set_cons_zero, List.set_cons_succ]
    refine wpAnyH_take (i := 12) (oi := ?oi_13_0) (v := ?_) ?hi_13_0 (by kernel_rfl) ?hf_13_0 (by kernel_rfl) ?hQ_13_0 ?hy_13_0 (by assumption) ?_
    case hi_13_0 => simp only [List.getElem?_toArray, List.getElem?_cons_zero, List.getElem?_cons_succ]; rfl
    case hf_13_0 => kernel_rfl
    case hQ_13_0 => exact fun _ _ _ h => h
    case hy_13_0 =>
      refine Or.inl ⟨by rfl, ?_⟩
      intro W hSw
      go_simp
      try with_reducible rfl
    try simp only [Act.put, List.setIfInBounds_toArray, List.set_cons_zero, List.set_cons_succ]
    refine wpAnyH_take (i := 13) (oi := ?oi_14_0) (v := ?_) ?hi_14_0 (by kernel_rfl) ?hf_14_0 (by kernel_rfl) ?hQ_14_0 ?hy_14_0 (by assumption) ?_
    case hi_14_0 => simp only [List.getElem?_toArray, List.getElem?_cons_zero, List.getElem?_cons_succ]; rfl
    case hf_14_0 => kernel_rfl
    case hQ_14_0 => exact fun _ _ _ h => h
    case hy_14_0 =>
      refine Or.inl ⟨by rfl, ?_⟩
      intro W hSw
      go_simp
      try with_reducible rfl
    try simp only [Act.put, List.setIfInBounds_toArray, List.set_cons_zero, List.set_cons_succ]
    refine wpAnyH_take (i := 14) (oi := ?oi_15_0) (v := ?_) ?hi_15_0 (by kernel_rfl) ?hf_15_0 (by kernel_rfl) ?hQ_15_0 ?hy_15_0 (by assumption) ?_
    case hi_15_0 => simp only [List.getElem?_toArray, List.getElem?_cons_zero, List.getElem?_cons_succ]; rfl
    case hf_15_0 => kernel_rfl
    case hQ_15_0 => exact fun _ _ _ h => h
    case hy_15_0 =>
      refine Or.inl ⟨by rfl, ?_⟩
      intro W hSw
      go_simp
      try with_reducible rfl
    try simp only [Act.put, List.setIfInBounds_toArray, List.set_cons_zero, List.set_cons_succ]
    refine wpAnyH_take (i := 15) (oi := ?oi_16_0) (v := ?_) ?hi_16_0 (by kernel_rfl) ?hf_16_0 (by kernel_rfl) ?hQ_16_0 ?hy_16_0 (by assumption) ?_
    case hi_16_0 => simp only [List.getElem?_toArray, List.getElem?_cons_zero, List.getElem?_cons_succ]; rfl
    case hf_16_0 => kernel_rfl
    case hQ_16_0 => exact fun _ _ _ h => h
    case hy_16_0 =>
      refine Or.inl ⟨by rfl, ?_⟩
      intro W hSw
      go_simp
      try with_reducible rfl
    try simp only [Act.put, List.setIfInBounds_toArray, List.set_cons_zero, List.set_cons_succ]
    refine wpAnyH_take (i := 16) (oi := ?oi_17_0) (v := ?_) ?hi_17_0 (by kernel_rfl) ?hf_17_0 (by kernel_rfl) ?hQ_17_0 ?hy_17_0 (by assumption) ?_
    case hi_17_0 => simp only [List.getElem?_toArray, List.getElem?_cons_zero, List.getElem?_cons_succ]; rfl
    case hf_17_0 => kernel_rfl
    case hQ_17_0 => exact fun _ _ _ h => h
    case hy_17_0 =>
      refine Or.inl ⟨by rfl, ?_⟩
      intro W hSw
      have x0 := (HX9.out W hSw).1
      have x1 := (HX9.out W hSw).2.1
      go_simp
      try with_reducible rfl
    try simp only [Act.put, List.setIfInBounds_toArray, List.set_cons_zero, List.set_cons_succ]
    refine wpAnyH_take (i := 17) (oi := ?oi_18_0) (v := ?_) ?hi_18_0 (by kernel_rfl) ?hf_18_0 (by kernel_rfl) ?hQ_18_0 ?hy_18_0 (by assumption) ?_
    case hi_18_0 => simp only [List.getElem?_toArray, List.getElem?_cons_zero, List.getElem?_cons_succ]; rfl
    case hf_18_0 => kernel_rfl
    case hQ_18_0 => exact fun _ _ _ h => h
    case hy_18_0 =>
      refine Or.inl ⟨by rfl, ?_⟩
      intro W hSw
      have x0 := (HX9.out W hSw).2.2.1
      have x1 := (HX9.out W hSw).2.2.2
      go_simp
      try with_reducible rfl
    try simp only [Act.put, List.setIfInBounds_toArray, List.set_cons_zero, List.set_cons_succ]
    refine wpAnyH_take (i := 19) (oi := ?oi_19_0) (v := ?_) ?hi_19_0 (by kernel_rfl) ?hf_19_0 (by kernel_rfl) ?hQ_19_0 ?hy_19_0 (by assumption) ?_
    case hi_19_0 => simp only [List.getElem?_toArray, List.getElem?_cons_zero, List.getElem?_cons_succ]; rfl
    case hf_19_0 => kernel_rfl
    case hQ_19_0 => exact fun _ _ _ h => h
    case hy_19_0 =>
      refine Or.inl ⟨by rfl, ?_⟩
      intro W hSw
      go_simp
      try with_reducible rfl
    try simp only [Act.put, List.setIfInBounds_toArray, List.set_cons_zero, List.set_cons_succ]
    refine wpAnyH_take (i := 20) (oi := ?oi_20_0) (v := ?_) ?hi_20_0 (by kernel_rfl) ?hf_20_0 (by kernel_rfl) ?hQ_20_0 ?hy_20_0 (by assumption) ?_
    case hi_20_0 => simp only [List.getElem?_toArray, List.getElem?_cons_zero, List.getElem?_cons_succ]; rfl
    case hf_20_0 => kernel_rfl
    case hQ_20_0 => exact fun _ _ _ h => h
    case hy_20_0 =>
      refine Or.inl ⟨by rfl, ?_⟩
      intro W hSw
      have xc := G1.out W hSw
      go_simp
      try with_reducible rfl
    try simp only [Act.put, List.setIfInBounds_toArray, List.set_cons_zero, List.set_cons_succ]
    refine wpAnyH_take (i := 21) (oi := ?oi_21_0) (v := ?_) ?hi_21_0 (by kernel_rfl) ?hf_21_0 (by kernel_rfl) ?hQ_21_0 ?hy_21_0 (by assumption) ?_
    case hi_21_0 => simp only [List.getElem?_toArray, List.getElem?_cons_zero, List.getElem?_cons_succ]; rfl
    case hf_21_0 => kernel_rfl
    case hQ_21_0 => exact fun _ _ _ h => h
    case hy_21_0 =>
      refine Or.inl ⟨by rfl, ?_⟩
      intro W hSw
      go_simp
      try with_reducible rfl
    try simp only [Act.put, List.setIfInBounds_toArray, List.set_cons_zero, List.set_cons_succ]
    refine wpAnyH_take (i := 22) (oi := ?oi_22_0) (v := ?_) ?hi_22_0 (by kernel_rfl) ?hf_22_0 (by kernel_rfl) ?hQ_22_0 ?hy_22_0 (by assumption) ?_
    case hi_22_0 => simp only [List.getElem?_toArray, List.getElem?_cons_zero, List.getElem?_cons_succ]; rfl
    case hf_22_0 => kernel_rfl
    case hQ_22_0 => exact fun _ _ _ h => h
    case hy_22_0 =>
      refine Or.inl ⟨by rfl, ?_⟩
      intro W hSw
      have xc := G2.out W hSw
      go_simp
      try with_reducible rfl
    try simp only [Act.put, List.setIfInBounds_toArray, List.set_cons_zero, List.set_cons_succ]
    refine wpAnyH_take (i := 23) (oi := ?oi_23_0) (v := ?_) ?hi_23_0 (by kernel_rfl) ?hf_23_0 (by kernel_rfl) ?hQ_23_0 ?hy_23_0 (by assumption) ?_
    case hi_23_0 => simp only [List.getElem?_toArray, List.getElem?_cons_zero, List.getElem?_cons_succ]; rfl
    case hf_23_0 => kernel_rfl
    case hQ_23_0 => exact fun _ _ _ h => h
    case hy_23_0 =>
      refine Or.inl ⟨by rfl, ?_⟩
      intro W hSw
      go_simp
      try with_reducible rfl
    try simp only [Act.put, List.setIfInBounds_toArray, List.set_cons_zero, List.set_cons_succ]
    refine wpAnyH_ready (rs := [18]) (by kernel_rfl) (by simp) ?_
    refine AllReadyH.cons (o := ?oi_24_0) ?hi_24_0 (fun K hK => ?_) AllReadyH.nil
    case hi_24_0 => simp only [List.getElem?_toArray, List.getElem?_cons_zero, List.getElem?_cons_succ]; rfl
    go_simp
    (go_at_call 20
     with_reducible refine (SS1.out _ HBwq.out).mono ?_
     rintro e wr ⟨rfl, hbn⟩
     have HBwr : Hid (Below W6.heap.size W6 wr) := Lib.hid (HBwq.out.trans (hbn.mono HBwq.out.size))
     clear hbn)
    refine hK.out _ _ HBwr.out (fun hHeld => ?_)
    clear hK K
    try simp only [Act.put, List.setIfInBounds_toArray, List.set_cons_zero, List.set_cons_succ]
    refine wpAnyH_take (i := 24) (oi := ?oi_25_0) (v := ?_) ?hi_25_0 (by kernel_rfl) ?hf_25_0 (by kernel_rfl) ?hQ_25_0 ?hy_25_0 (by assumption) ?_
    case hi_25_0 => simp only [List.getElem?_toArray, List.getElem?_cons_zero, List.getElem?_cons_succ]; rfl
    case hf_25_0 => kernel_rfl
    case hQ_25_0 => exact fun _ _ _ h => h
    case hy_25_0 =>
      refine Or.inl ⟨by rfl, ?_⟩
      intro W hSw
      go_simp
      try with_reducible rfl
    try simp only [Act.put, List.setIfInBounds_toArray, List.set_cons_zero, List.set_cons_succ]
    refine wpAnyH_take (i := 25) (oi := ?oi_26_0) (v := ?_) ?hi_26_0 (by kernel_rfl) ?hf_26_0 (by kernel_rfl) ?hQ_26_0 ?hy_26_0 (by assumption) ?_
    case hi_26_0 => simp only [List.getElem?_toArray, List.getElem?_cons_zero, List.getElem?_cons_succ]; rfl
    case hf_26_0 => kernel_rfl
    case hQ_26_0 => exact fun _ _ _ h => h
    case hy_26_0 =>
      refine Or.inl ⟨by rfl, ?_⟩
      intro W hSw
      go_simp
      try with_reducible rfl
    try simp only [Act.put, List.setIfInBounds_toArray, List.set_cons_zero, List.set_cons_succ]
    refine wpAnyH_done (by kernel_rfl) ?_ _
    clear hHeld
    obtain ⟨x0, x1, _, _⟩ := HX9.out _ HBwr.out
    have x2 := (HXx.out _ HBwr.out).cell 0
    have x3 := (HXx.out _ HBwr.out).cell 1
    go_wp2_with (go_at_call 20; (with_reducible refine (SS2.out _ HBwr.out).mono ?_); rintro e ws ⟨rfl, hbn⟩
                 have HBws : Hid (Below W6.heap.size W6 ws) := Lib.hid (HBwr.out.trans (hbn.mono HBwr.out.size))
                 clear hbn)
    go_ret
    exact ⟨by simp, HB6.out.trans (HBws.out.mono HB6.out.size)⟩
  ·
    refine wp_region_held_drew (S := (fun W => Below W6.heap.size W6 W)) (by kernel_rfl) HD6.out (fun hHeld => ?_)
    refine wpAnyH_take (i := 0) (oi := ?oi_27_1) (v := ?_) ?hi_27_1 (by kernel_rfl) ?hf_27_1 (by kernel_rfl) ?hQ_27_1 ?hy_27_1 (by assumption) ?_
    case hi_27_1 => simp only [List.getElem?_toArray, List.getElem?_cons_zero, List.getElem?_cons_succ]; rfl
    case hf_27_1 => kernel_rfl
    case hQ_27_1 => exact fun _ _ _ h => h
    case hy_27_1 =>
      refine Or.inl ⟨by rfl, ?_⟩
      intro W hSw
      have x0 := (HX9.out W hSw).1
      have x1 := (HX9.out W hSw).2.1
      go_simp
      try with_reducible rfl
    try simp only [Act.put, List.setIfInBounds_toArray, List.set_cons_zero, List.set_cons_succ]
    refine wpAnyH_take (i := 2) (oi := ?oi_28_1) (v := ?_) ?hi_28_1 (by kernel_rfl) ?hf_28_1 (by kernel_rfl) ?hQ_28_1 ?hy_28_1 (by assumption) ?_
    case hi_28_1 => simp only [List.getElem?_toArray, List.getElem?_cons_zero, List.getElem?_cons_succ]; rfl
    case hf_28_1 => kernel_rfl
    case hQ_28_1 => exact fun _ _ _ h => h
    case hy_28_1 =>
      refine Or.inl ⟨by rfl, ?_⟩
      intro W hSw
      go_simp
      try with_reducible rfl
    try simp only [Act.put, List.setIfInBounds_toArray, List.set_cons_zero, List.set_cons_succ]
    refine wpAnyH_ready (rs := [1]) (by kernel_rfl) (by simp) ?_
    refine AllReadyH.cons (o := ?oi_29_1) ?hi_29_1 (fun K hK => ?_) AllReadyH.nil
    case hi_29_1 => simp only [List.getElem?_toArray, List.getElem?_cons_zero, List.getElem?_cons_succ]; rfl
    go_simp
    (go_at_call 18
     with_reducible refine (SR1.out _ HD6.out).mono ?_
     rintro e wp ⟨rfl, hbn⟩
     have HBwp : Hid (Below W6.heap.size W6 wp) := Lib.hid (HD6.out.trans (hbn.mono HD6.out.size))
     clear hbn)
    refine hK.out _ _ HBwp.out (fun hHeld => ?_)
    clear hK K
    try simp only [Act.put, List.setIfInBounds_toArray, List.set_cons_zero, List.set_cons_succ]
    refine wpAnyH_take (i := 3) (oi := ?oi_30_1) (v := ?_) ?hi_30_1 (by kernel_rfl) ?hf_30_1 (by kernel_rfl) ?hQ_30_1 ?hy_30_1 (by assumption) ?_
    case hi_30_1 => simp only [List.getElem?_toArray, List.getElem?_cons_zero, List.getElem?_cons_succ]; rfl
    case hf_30_1 => kernel_rfl
    case hQ_30_1 => exact fun _ _ _ h => h
    case hy_30_1 =>
      refine Or.inl ⟨by rfl, ?_⟩
      intro W hSw
      go_simp
      try with_reducible rfl
    try simp only [Act.put, List.setIfInBounds_toArray, List.set_cons_zero, List.set_cons_succ]
    refine wpAnyH_take (i := 4) (oi := ?oi_31_1) (v := ?_) ?hi_31_1 (by kernel_rfl) ?hf_31_1 (by kernel_rfl) ?hQ_31_1 ?hy_31_1 (by assumption) ?_
    case hi_31_1 => simp only [List.getElem?_toArray, List.getElem?_cons_zero, List.getElem?_cons_succ]; rfl
    case hf_31_1 => kernel_rfl
    case hQ_31_1 => exact fun _ _ _ h => h
    case hy_31_1 =>
      refine Or.inl ⟨by rfl, ?_⟩
      intro W hSw
      go_simp
      try with_reducible rfl
    try simp only [Act.put, List.setIfInBounds_toArray, List.set_cons_zero, List.set_cons_succ]
    refine wpAnyH_take (i := 5) (oi := ?oi_32_1) (v := ?_) ?hi_32_1 (by kernel_rfl) ?hf_32_1 (by kernel_rfl) ?hQ_32_1 ?hy_32_1 (by assumption) ?_
    case hi_32_1 => simp only [List.getElem?_toArray, List.getElem?_cons_zero, List.getElem?_cons_succ]; rfl
    case hf_32_1 => kernel_rfl
    case hQ_32_1 => exact fun _ _ _ h => h
    case hy_32_1 =>
      refine Or.inl ⟨by rfl, ?_⟩
      intro W hSw
      have x0 := (HX9.out W hSw).1
      have x1 := (HX9.out W hSw).2.1
      go_simp
      try with_reducible rfl
    try simp only [Act.put, List.setIfInBounds_toArray, List.set_cons_zero, List.set_cons_succ]
    refine wpAnyH_take (i := 7) (oi := ?oi_33_1) (v := ?_) ?hi_33_1 (by kernel_rfl) ?hf_33_1 (by kernel_rfl) ?hQ_33_1 ?hy_33_1 (by assumption) ?_
    case hi_33_1 => simp only [List.getElem?_toArray, List.getElem?_cons_zero, List.getElem?_cons_succ]; rfl
    case hf_33_1 => kernel_rfl
    case hQ_33_1 => exact fun _ _ _ h => h
    case hy_33_1 =>
      refine Or.inl ⟨by rfl, ?_⟩
      intro W hSw
      go_simp
      try with_reducible rfl
    try simp only [Act.put, List.setIfInBounds_toArray, List.set_cons_zero, List.set_cons_succ]
    refine wpAnyH_take (i := 10) (oi := ?oi_34_1) (v := ?_) ?hi_34_1 (by kernel_rfl) ?hf_34_1 (by kernel_rfl) ?hQ_34_1 ?hy_34_1 (by assumption) ?_
    case hi_34_1 => simp only [List.getElem?_toArray, List.getElem?_cons_zero, List.getElem?_cons_succ]; rfl
    case hf_34_1 => kernel_rfl
    case hQ_34_1 => exact fun _ _ _ h => h
    case hy_34_1 =>
      refine Or.inl ⟨by rfl, ?_⟩
      intro W hSw
      go_simp
      try with_reducible rfl
    try simp only [Act.put, List.setIfInBounds_toArray, List.set_cons_zero, List.set_cons_succ]
    refine wpAnyH_ready (rs := [6]) (by kernel_rfl) (by simp) ?_
    refine AllReadyH.cons (o := ?oi_35_1) ?hi_35_1 (fun K hK => ?_) AllReadyH.nil
    case hi_35_1 => simp only [List.getElem?_toArray, List.getElem?_cons_zero, List.getElem?_cons_succ]; rfl
    go_simp
    (go_at_call 17
     with_reducible refine (SP1.out _ HBwp.out).mono ?_
     rintro e wq ⟨rfl, hbn⟩
     have HBwq : Hid (Below W6.heap.size W6 wq) := Lib.hid (HBwp.out.trans (hbn.mono HBwp.out.size))
     clear hbn)
    refine hK.out _ _ HBwq.out (fun hHeld => ?_)
    clear hK K
    try simp only [Act.put, List.setIfInBounds_toArray, List.set_cons_zero, List.set_cons_succ]
    refine wpAnyH_ready (rs := [8]) (by kernel_rfl) (by simp) ?_
    refine AllReadyH.cons (o := ?oi_36_1) ?hi_36_1 (fun K hK => ?_) AllReadyH.nil
    case hi_36_1 => simp only [List.getElem?_toArray, List.getElem?_cons_zero, List.getElem?_cons_succ]; rfl
    go_simp
    (go_at_call 19
     with_reducible refine (L0.out _ HBwq.out).mono ?_
     rintro e wz ⟨rfl, rfl⟩)
    refine hK.out _ _ HBwq.out (fun hHeld => ?_)
    clear hK K
    try simp only [Act.put, List.setIfInBounds_toArray, List.set_cons_zero, List.set_cons_succ]
    refine wpAnyH_take (i := 9) (oi := ?oi_37_1) (v := ?_) ?hi_37_1 (by kernel_rfl) ?hf_37_1 (by kernel_rfl) ?hQ_37_1 ?hy_37_1 (by assumption) ?_
    case hi_37_1 => simp only [List.getElem?_toArray, List.getElem?_cons_zero, List.getElem?_cons_succ]; rfl
    case hf_37_1 => kernel_rfl
    case hQ_37_1 => exact fun _ _ _ h => h
    case hy_37_1 =>
      refine Or.inl ⟨by rfl, ?_⟩
      intro W hSw
      go_simp
      try with_reducible rfl
    try simp only [Act.put, List.setIfInBounds_toArray, List.set_cons_zero, List.set_cons_succ]
    refine wpAnyH_ready (rs := [11]) (by kernel_rfl) (by simp) ?_
    refine AllReadyH.cons (o := ?oi_38_1) ?hi_38_1 (fun K hK => ?_) AllReadyH.nil
    case hi_38_1 => simp only [List.getElem?_toArray, List.getElem?_cons_zero, List.getElem?_cons_succ]; rfl
    go_simp
    (go_at_call 19
     with_reducible refine (L1.out _ HBwq.out).mono ?_
     rintro e wz ⟨rfl, rfl⟩)
    refine hK.out _ _ HBwq.out (fun hHeld => ?_)
    clear hK K
    try simp only [Act.put, List.setIfInBounds_toArray, List.set_cons_zero, List.set_cons_succ]
    refine wpAnyH_take (i := 12) (oi := ?oi_39_1) (v := ?_) ?hi_39_1 (by kernel_rfl) ?hf_39_1 (by kernel_rfl) ?hQ_39_1 ?hy_39_1 (by assumption) ?_
    case hi_39_1 => simp only [List.getElem?_toArray, List.getElem?_cons_zero, List.getElem?_cons_succ]; rfl
    case hf_39_1 => kernel_rfl
    case hQ_39_1 => exact fun _ _ _ h => h
    case hy_39_1 =>
      refine Or.inl ⟨by rfl, ?_⟩
      intro W hSw
      go_simp
      try with_reducible rfl
    try simp only [Act.put, List.setIfInBounds_toArray, List.set_cons_zero, List.set_cons_succ]
    refine wpAnyH_take (i := 13) (oi := ?oi_40_1) (v := ?_) ?hi_40_1 (by kernel_rfl) ?hf_40_1 (by kernel_rfl) ?hQ_40_1 ?hy_40_1 (by assumption) ?_
    case hi_40_1 => simp only [List.getElem?_toArray, List.getElem?_cons_zero, List.getElem?_cons_succ]; rfl
    case hf_40_1 => kernel_rfl
    case hQ_40_1 => exact fun _ _ _ h => h
    case hy_40_1 =>
      refine Or.inl ⟨by rfl, ?_⟩
      intro W hSw
      go_simp
      try with_reducible rfl
    try simp only [Act.put, List.setIfInBounds_toArray, List.set_cons_zero, List.set_cons_succ]
    refine wpAnyH_take (i := 14) (oi := ?oi_41_1) (v := ?_) ?hi_41_1 (by kernel_rfl) ?hf_41_1 (by kernel_rfl) ?hQ_41_1 ?hy_41_1 (by assumption) ?_
    case hi_41_1 => simp only [List.getElem?_toArray, List.getElem?_cons_zero, List.getElem?_cons_succ]; rfl
    case hf_41_1 => kernel_rfl
    case hQ_41_1 => exact fun _ _ _ h => h
    case hy_41_1 =>
      refine Or.inl ⟨by rfl, ?_⟩
      intro W hSw
      go_simp
      try with_reducible rfl
    try simp only [Act.put, List.setIfInBounds_toArray, List.set_cons_zero, List.set_cons_succ]
    refine wpAnyH_take (i := 15) (oi := ?oi_42_1) (v := ?_) ?hi_42_1 (by kernel_rfl) ?hf_42_1 (by kernel_rfl) ?hQ_42_1 ?hy_42_1 (by assumption) ?_
    case hi_42_1 => simp only [List.getElem?_toArray, List.getElem?_cons_zero, List.getElem?_cons_succ]; rfl
    case hf_42_1 => kernel_rfl
    case hQ_42_1 => exact fun _ _ _ h => h
    case hy_42_1 =>
      refine Or.inl ⟨by rfl, ?_⟩
      intro W hSw
      go_simp
      try with_reducible rfl
    try simp only [Act.put, List.setIfInBounds_toArray, List.set_cons_zero, List.set_cons_succ]
    refine wpAnyH_take (i := 16) (oi := ?oi_43_1) (v := ?_) ?hi_43_1 (by kernel_rfl) ?hf_43_1 (by kernel_rfl) ?hQ_43_1 ?hy_43_1 (by assumption) ?_
    case hi_43_1 => simp only [List.getElem?_toArray, List.getElem?_cons_zero, List.getElem?_cons_succ]; rfl
    case hf_43_1 => kernel_rfl
    case hQ_43_1 => exact fun _ _ _ h => h
    case hy_43_1 =>
      refine Or.inl ⟨by rfl, ?_⟩
      intro W hSw
      have x0 := (HX9.out W hSw).1
      have x1 := (HX9.out W hSw).2.1
      go_simp
      try with_reducible rfl
    try simp only [Act.put, List.setIfInBounds_toArray, List.set_cons_zero, List.set_cons_succ]
    refine wpAnyH_take (i := 17) (oi := ?oi_44_1) (v := ?_) ?hi_44_1 (by kernel_rfl) ?hf_44_1 (by kernel_rfl) ?hQ_44_1 ?hy_44_1 (by assumption) ?_
    case hi_44_1 => simp only [List.getElem?_toArray, List.getElem?_cons_zero, List.getElem?_cons_succ]; rfl
    case hf_44_1 => kernel_rfl
    case hQ_44_1 => exact fun _ _ _ h => h
    case hy_44_1 =>
      refine Or.inl ⟨by rfl, ?_⟩
      intro W hSw
      have x0 := (HX9.out W hSw).2.2.1
      have x1 := (HX9.out W hSw).2.2.2
      go_simp
      try with_reducible rfl
    try simp only [Act.put, List.setIfInBounds_toArray, List.set_cons_zero, List.set_cons_succ]
    refine wpAnyH_take (i := 19) (oi := ?oi_45_1) (v := ?_) ?hi_45_1 (by kernel_rfl) ?hf_45_1 (by kernel_rfl) ?hQ_45_1 ?hy_45_1 (by assumption) ?_
    case hi_45_1 => simp only [List.getElem?_toArray, List.getElem?_cons_zero, List.getElem?_cons_succ]; rfl
    case hf_45_1 => kernel_rfl
    case hQ_45_1 => exact fun _ _ _ h => h
    case hy_45_1 =>
      refine Or.inl ⟨by rfl, ?_⟩
      intro W hSw
      go_simp
      try with_reducible rfl
    try simp only [Act.put, List.setIfInBounds_toArray, List.set_cons_zero, List.set_cons_succ]
    refine wpAnyH_take (i := 20) (oi := ?oi_46_1) (v := ?_) ?hi_46_1 (by kernel_rfl) ?hf_46_1 (by kernel_rfl) ?hQ_46_1 ?hy_46_1 (by assumption) ?_
    case hi_46_1 => simp only [List.getElem?_toArray, List.getElem?_cons_zero, List.getElem?_cons_succ]; rfl
    case hf_46_1 => kernel_rfl
    case hQ_46_1 => exact fun _ _ _ h => h
    case hy_46_1 =>
      refine Or.inl ⟨by rfl, ?_⟩
      intro W hSw
      have xc := G1.out W hSw
      go_simp
      try with_reducible rfl
    try simp only [Act.put, List.setIfInBounds_toArray, List.set_cons_zero, List.set_cons_succ]
    refine wpAnyH_take (i := 21) (oi := ?oi_47_1) (v := ?_) ?hi_47_1 (by kernel_rfl) ?hf_47_1 (by kernel_rfl) ?hQ_47_1 ?hy_47_1 (by assumption) ?_
    case hi_47_1 => simp only [List.getElem?_toArray, List.getElem?_cons_zero, List.getElem?_cons_succ]; rfl
    case hf_47_1 => kernel_rfl
    case hQ_47_1 => exact fun _ _ _ h => h
    case hy_47_1 =>
      refine Or.inl ⟨by rfl, ?_⟩
      intro W hSw
      go_simp
      try with_reducible rfl
    try simp only [Act.put, List.setIfInBounds_toArray, List.set_cons_zero, List.set_cons_succ]
    refine wpAnyH_take (i := 22) (oi := ?oi_48_1) (v := ?_) ?hi_48_1 (by kernel_rfl) ?hf_48_1 (by kernel_rfl) ?hQ_48_1 ?hy_48_1 (by assumption) ?_
    case hi_48_1 => simp only [List.getElem?_toArray, List.getElem?_cons_zero, List.getElem?_cons_succ]; rfl
    case hf_48_1 => kernel_rfl
    case hQ_48_1 => exact fun _ _ _ h => h
    case hy_48_1 =>
      refine Or.inl ⟨by rfl, ?_⟩
      intro W hSw
      have xc := G2.out W hSw
      go_simp
      try with_reducible rfl
    try simp only [Act.put, List.setIfInBounds_toArray, List.set_cons_zero, List.set_cons_succ]
    refine wpAnyH_take (i := 23) (oi := ?oi_49_1) (v := ?_) ?hi_49_1 (by kernel_rfl) ?hf_49_1 (by kernel_rfl) ?hQ_49_1 ?hy_49_1 (by assumption) ?_
    case hi_49_1 => simp only [List.getElem?_toArray, List.getElem?_cons_zero, List.getElem?_cons_succ]; rfl
    case hf_49_1 => kernel_rfl
    case hQ_49_1 => exact fun _ _ _ h => h
    case hy_49_1 =>
      refine Or.inl ⟨by rfl, ?_⟩
      intro W hSw
      go_simp
      try with_reducible rfl
    try simp only [Act.put, List.setIfInBounds_toArray, List.set_cons_zero, List.set_cons_succ]
    refine wpAnyH_ready (rs := [18]) (by kernel_rfl) (by simp) ?_
    refine AllReadyH.cons (o := ?oi_50_1) ?hi_50_1 (fun K hK => ?_) AllReadyH.nil
    case hi_50_1 => simp only [List.getElem?_toArray, List.getElem?_cons_zero, List.getElem?_cons_succ]; rfl
    go_simp
    (go_at_call 20
     with_reducible refine (SS1.out _ HBwq.out).mono ?_
     rintro e wr ⟨rfl, hbn⟩
     have HBwr : Hid (Below W6.heap.size W6 wr) := Lib.hid (HBwq.out.trans (hbn.mono HBwq.out.size))
     clear hbn)
    refine hK.out _ _ HBwr.out (fun hHeld => ?_)
    clear hK K
    try simp only [Act.put, List.setIfInBounds_toArray, List.set_cons_zero, List.set_cons_succ]
    refine wpAnyH_take (i := 24) (oi := ?oi_51_1) (v := ?_) ?hi_51_1 (by kernel_rfl) ?hf_51_1 (by kernel_rfl) ?hQ_51_1 ?hy_51_1 (by assumption) ?_
    case hi_51_1 => simp only [List.getElem?_toArray, List.getElem?_cons_zero, List.getElem?_cons_succ]; rfl
    case hf_51_1 => kernel_rfl
    case hQ_51_1 => exact fun _ _ _ h => h
    case hy_51_1 =>
      refine Or.inl ⟨by rfl, ?_⟩
      intro W hSw
      go_simp
      try with_reducible rfl
    try simp only [Act.put, List.setIfInBounds_toArray, List.set_cons_zero, List.set_cons_succ]
    refine wpAnyH_take (i := 25) (oi := ?oi_52_1) (v := ?_) ?hi_52_1 (by kernel_rfl) ?hf_52_1 (by kernel_rfl) ?hQ_52_1 ?hy_52_1 (by assumption) ?_
    case hi_52_1 => simp only [List.getElem?_toArray, List.getElem?_cons_zero, List.getElem?_cons_succ]; rfl
    case hf_52_1 => kernel_rfl
    case hQ_52_1 => exact fun _ _ _ h => h
    case hy_52_1 =>
      refine Or.inl ⟨by rfl, ?_⟩
      intro W hSw
      go_simp
      try with_reducible rfl
    try simp only [Act.put, List.setIfInBounds_toArray, List.set_cons_zero, List.set_cons_succ]
    refine wpAnyH_done (by kernel_rfl) ?_ _
    clear hHeld
    obtain ⟨x0, x1, _, _⟩ := HX9.out _ HBwr.out
    have x2 := (HXx.out _ HBwr.out).cell 0
    have x3 := (HXx.out _ HBwr.out).cell 1
    go_wp2_with (go_at_call 20; (with_reducible refine (SS2.out _ HBwr.out).mono ?_); rintro e ws ⟨rfl, hbn⟩
                 have HBws : Hid (Below W6.heap.size W6 ws) := Lib.hid (HBwr.out.trans (hbn.mono HBwr.out.size))
                 clear hbn)
    go_ret
    exact ⟨by simp, HB6.out.trans (HBws.out.mono HB6.out.size)⟩
set_option maxHeartbeats 8000000 in
set_option maxRecDepth 100000 in
theorem print_no1 (A0 A1 A2 : Option Addr) (n0 n1 n2 c0 c1 c2 : Nat) (l0 l1 l2 : List Nat) (S0 : ByteArray) (d : Bool) (w : World) (hM : Mx w) (h0 : n0 ≤ 30) (h1 : n1 ≤ 30) (h2 : n2 ≤ 30)
    (y0 : Byt w A0 n0 c0 l0) (y1 : Byt w A1 n1 c1 l1) (y2 : Byt w A2 n2 c2 l2) (hq0 : okL l0 = false) 
    (hS : S0 = ⟨(sgT l0 l1).toArray⟩) (hd : decide (l1 = l2) = d) :
    Calls Tryd.prog 3 #[.slice A0 n0 c0, .slice A1 n1 c1, .slice A2 n2 c2] w fun e w' => e = .returned (.bool true) ∧ Below w.heap.size w w' := by
  have HM := Lib.hid hM
  obtain ⟨m, h5, hm⟩ := hM
  have HA := Lib.hid (awake9_any m w h5 hm)
  have R0 := Lib.hid (fun W (b : Below w.heap.size w W) => hq0 ▸ lawRight_ok A0 n0 c0 l0 (by omega) W (y0.below b))
  have R1 := Lib.hid (fun W (b : Below w.heap.size w W) => lawRight_ok A1 n1 c1 l1 (by omega) W (y1.below b))
  have T0 := Lib.hid (fun W (b : Below w.heap.size w W) => To_ok A0 n0 c0 l0 (by omega) W (y0.below b))
  have T1 := Lib.hid (fun W (b : Below w.heap.size w W) => To_ok A1 n1 c1 l1 (by omega) W (y1.below b))
  have T2 := Lib.hid (fun W (b : Below w.heap.size w W) => To_ok A2 n2 c2 l2 (by omega) W (y2.below b))
  have C1 := Lib.hid (fun W (b : Below w.heap.size w W) => conv_byt (y1.below b))
  have C2 := Lib.hid (fun W (b : Below w.heap.size w W) => conv_byt (y2.below b))
  have D0 := Lib.hid (fun W (b : Below w.heap.size w W) => List_txt A0 n0 c0 l0 (by omega) W (y0.below b))
  have D1 := Lib.hid (fun W (b : Below w.heap.size w W) => List_txt A1 n1 c1 l1 (by omega) W (y1.below b))
  have z0 : (txtL l0).size ≤ 4002 := by have := txtL_size l0; have := y0.1; omega
  have z1 : (txtL l1).size ≤ 4002 := by have := txtL_size l1; have := y1.1; omega
  have F1 := Lib.hid (cat_ok (txtL l0) ⟨#[45, 62]⟩ (by have : (⟨#[45, 62]⟩ : ByteArray).size = 2 := rfl; omega))
  have F2 : Hid (Op.stringOp .add (txtL l0 ++ ⟨#[45, 62]⟩) (txtL l1) = pure (.string S0)) := Lib.hid (by
    rw [cat_ok (txtL l0 ++ ⟨#[45, 62]⟩) (txtL l1) (by have : (⟨#[45, 62]⟩ : ByteArray).size = 2 := rfl; rw [app_size]; omega), cat_eq, hS])
  have hst : (S0.toList == S0.toList) = true := by simp
  have k0 : ¬ (30 : Int) < (n0 : Int) := by omega
  have k1 : ¬ (30 : Int) < (n1 : Int) := by omega
  have k2 : ¬ (30 : Int) < (n2 : Int) := by omega
  have E0 := Lib.hid (hd ▸ str_eq l1 l2 y1.2.1 y2.2.1)
  have HX0 := Lib.hid y0.2.1
  have HX1 := Lib.hid y1.2.1
  have HX2 := Lib.hid y2.2.1
  have HL := Lib.hid (And.intro y0.1 (And.intro y1.1 y2.1))
  have HN := Lib.hid (And.intro h0 (And.intro h1 h2))
  have HD := Lib.hid hd
  have HQ : Hid ((okL l0 && okL l1) = false) := Lib.hid (by rw [hq0]; rfl)
  have HSt := Lib.hid hS
  clear hm h5 y0 y1 y2 h0 h1 h2 hq0 hd hS z0 z1
  generalize txtL l0 = X0 at F1 F2 D0
  generalize txtL l1 = X1 at F2 D1
  go_enter Tryd.func3, Tryd.ntmps3
  go_wp2_with (first
    | (go_at_call 13; (with_reducible refine HA.out.mono ?_); rintro e w1 ⟨rfl, hb⟩; have HB := Lib.hid hb; clear hb)
    | (go_at_call 14; first
      | ((with_reducible refine (T0.out _ HB.out).mono ?_); (rintro e wa ⟨v, rfl, o, b⟩); (obtain ⟨Aa, ca, rfl⟩ := own_slice o)
         have YA := Lib.hid (Byt.own o HX0.out)
         have HBa := Lib.hid (HB.out.trans (b.mono HB.out.size))
         clear o b)
      | ((with_reducible refine (T1.out _ HBa.out).mono ?_); (rintro e wb ⟨v, rfl, o, b⟩); (obtain ⟨Ab, cb, rfl⟩ := own_slice o)
         have YA1 := Lib.hid (YA.out.below b)
         have YB := Lib.hid (Byt.own o HX1.out)
         have HBb := Lib.hid (HBa.out.trans (b.mono HBa.out.size))
         have HBb2 := Lib.hid (HBb.out.alloc HBb.out.size (Obj.cells #[Value.slice Aa l0.length ca, Value.slice Ab l1.length cb] 27))
         have KA := Lib.hid (Blk.new wb 27 #[Value.slice Aa l0.length ca, Value.slice Ab l1.length cb])
         clear o b YA)
      | ((with_reducible refine (T0.out _ HBb2.out).mono ?_); (rintro e wc ⟨v, rfl, o, b⟩); (obtain ⟨Ac, cc, rfl⟩ := own_slice o)
         have bb := ((Below.refl _ wb).alloc (Nat.le_refl _) (Obj.cells #[Value.slice Aa l0.length ca, Value.slice Ab l1.length cb] 27)).trans (b.mono (by simp))
         have YA2 := Lib.hid (YA1.out.below bb)
         have YB2 := Lib.hid (YB.out.below bb)
         have KA2 := Lib.hid (KA.out.below b (by simp))
         have YC := Lib.hid (Byt.own o HX0.out)
         have HBc := Lib.hid (HBb2.out.trans (b.mono HBb2.out.size))
         clear o b bb YA1 YB KA)
      | ((with_reducible refine (T2.out _ HBc.out).mono ?_); (rintro e wd ⟨v, rfl, o, b⟩); (obtain ⟨Ad, cd, rfl⟩ := own_slice o)
         have bb := b.trans (((Below.refl _ wd).alloc (Nat.le_refl _) (Obj.cells #[Value.slice Ac l0.length cc, Value.slice Ad l2.length cd] 27)).mono b.size)
         have KB := Lib.hid (Blk.new wd 27 #[Value.slice Ac l0.length cc, Value.slice Ad l2.length cd])
         have YD := Lib.hid ((Byt.own o HX2.out).below ((Below.refl _ wd).alloc (Nat.le_refl _) (Obj.cells #[Value.slice Ac l0.length cc, Value.slice Ad l2.length cd] 27)))
         have YA3 := Lib.hid (YA2.out.below bb)
         have YB3 := Lib.hid (YB2.out.below bb)
         have YC3 := Lib.hid (YC.out.below bb)
         have KA3 := Lib.hid ((KA2.out.below b KA2.out.lt).alloc (Obj.cells #[Value.slice Ac l0.length cc, Value.slice Ad l2.length cd] 27))
         have HBd := Lib.hid (HBc.out.trans (bb.mono HBc.out.size))
         have x0 := KA3.out.cell 0
         have x1 := KA3.out.cell 1
         clear o b bb YA2 YB2 YC KA2))
    | (go_at_call 15; first
      | ((with_reducible refine (R0.out _ HBd.out).mono ?_); rintro e w2 ⟨rfl, rfl⟩)
      | ((with_reducible refine (R1.out _ HBd.out).mono ?_); rintro e w2 ⟨rfl, rfl⟩)))
  have P1 : Hid (∀ W A B c d, Byt W A l0.length c l0 → Byt W B l1.length d l1 → Calls Tryd.prog 17 #[.agg #[.slice A l0.length c, .slice B l1.length d]] W fun e w' => e = .returned (.string S0) ∧ Below W.heap.size W w') := Lib.hid (fun W A B c d ha hb => by
    obtain ⟨z0, z1, z2⟩ := HL.out
    obtain ⟨n0', n1', n2'⟩ := HN.out
    have := SPrint_any A B l0.length c l1.length d l0 l1 (by omega) (by omega) W ha hb
    rwa [← HSt.out] at this)
  have PS : Hid (∀ W, Mx W → Calls Tryd.prog 16 #[.string S0] W (fun e w' => (∃ A c B d, e = .returned (.tuple #[.agg #[.slice A 0 c, .slice B 0 d], .int .i64 4])) ∧ Below W.heap.size W w')) := Lib.hid (fun W hM => by
    obtain ⟨m, h5, hm⟩ := hM
    have h1 := sgL_txt l0 l1
    rw [HQ.out, if_neg (by decide)] at h1
    rw [HSt.out]
    exact ParseSig_no h1 (sgT_len HL.out.1 HL.out.2.1 HN.out.1 HN.out.2.1) m W h5 hm)
  clear R0 R1 T0 T1 T2 HA x0 x1
  go_wp2_with (first
    | (go_at_call 17; (with_reducible refine (P1.out _ _ _ _ _ YA3.out YB3.out).mono ?_); rintro e we ⟨rfl, b⟩
       have HBe := Lib.hid (HBd.out.trans (b.mono HBd.out.size))
       have HMe := Lib.hid (HM.out.below HBe.out)
       have YA4 := Lib.hid (YA3.out.below b)
       have YB4 := Lib.hid (YB3.out.below b)
       have YC4 := Lib.hid (YC3.out.below b)
       have YD4 := Lib.hid (YD.out.below b)
       have KA4 := Lib.hid (KA3.out.below b KA3.out.lt)
       have KB4 := Lib.hid (KB.out.below b KB.out.lt)
       clear b YA3 YB3 YC3 YD KA3 KB)
    | (go_at_call 16; (with_reducible refine (PS.out _ HMe.out).mono ?_); (rintro e wf ⟨⟨Ax, cx, Bx, dx, rfl⟩, b⟩)
       have HBf := Lib.hid (HBe.out.trans (b.mono HBe.out.size))
       have YA5 := Lib.hid (YA4.out.below b)
       have YB5 := Lib.hid (YB4.out.below b)
       have YC5 := Lib.hid (YC4.out.below b)
       have YD5 := Lib.hid (YD4.out.below b)
       have KA5 := Lib.hid (KA4.out.below b KA4.out.lt)
       have KB5 := Lib.hid (KB4.out.below b KB4.out.lt)
       clear b YA4 YB4 YC4 YD4 KA4 KB4))
  obtain ⟨W6, hW6⟩ : ∃ W6, W6 = wf.alloc (Obj.cells #[Value.slice Ax 0 cx, Value.slice Bx 0 dx] 27) := ⟨_, rfl⟩
  rw [← hW6]
  have b6 : Below wf.heap.size wf W6 := by rw [hW6]; exact (Below.refl _ wf).alloc (Nat.le_refl _) _
  have kx : Blk W6 wf.heap.size 27 #[Value.slice Ax 0 cx, Value.slice Bx 0 dx] := by rw [hW6]; exact Blk.new wf 27 _
  have HB6 : Hid (Below w.heap.size w W6) := Lib.hid (HBf.out.trans (b6.mono HBf.out.size))
  have YA6 := Lib.hid (YA5.out.below b6)
  have YB6 := Lib.hid (YB5.out.below b6)
  have YC6 := Lib.hid (YC5.out.below b6)
  have YD6 := Lib.hid (YD5.out.below b6)
  have ka := KA5.out.below b6 KA5.out.lt
  have kb := KB5.out.below b6 KB5.out.lt
  have HX9 : Hid (∀ W, Below W6.heap.size W6 W → W.cell? ⟨wb.heap.size, 0, none⟩ = some (Value.slice Aa l0.length ca) ∧ W.cell? ⟨wb.heap.size, 1, none⟩ = some (Value.slice Ab l1.length cb) ∧ W.cell? ⟨wd.heap.size, 0, none⟩ = some (Value.slice Ac l0.length cc) ∧ W.cell? ⟨wd.heap.size, 1, none⟩ = some (Value.slice Ad l2.length cd)) := Lib.hid (fun W h =>
    ⟨(ka.below h ka.lt).cell 0, (ka.below h ka.lt).cell 1, (kb.below h kb.lt).cell 0, (kb.below h kb.lt).cell 1⟩)
  have HXx : Hid (∀ W, Below W6.heap.size W6 W → Blk W wf.heap.size 27 #[Value.slice Ax 0 cx, Value.slice Bx 0 dx]) := Lib.hid (fun W h => kx.below h kx.lt)
  obtain ⟨z0, z1, z2⟩ := HL.out
  obtain ⟨n0', n1', n2'⟩ := HN.out
  have hd := HD.out
  have SR1 : Hid (∀ W, Below W6.heap.size W6 W → Calls Tryd.prog 18 #[.agg #[Value.slice Aa l0.length ca, Value.slice Ab l1.length cb]] W fun e w' => e = .returned (.bool false) ∧ Below W.heap.size W w') := Lib.hid (fun W h => by
    have := SRight_ok Aa Ab l0.length l1.length ca cb l0 l1 (by omega) (by omega) W (YA6.out.below h) (YB6.out.below h)
    rwa [HQ.out] at this)
  have SP1 : Hid (∀ W, Below W6.heap.size W6 W → Calls Tryd.prog 17 #[.agg #[Value.slice Aa l0.length ca, Value.slice Ab l1.length cb]] W fun e w' => e = .returned (.string S0) ∧ Below W.heap.size W w') := Lib.hid (fun W h => P1.out W _ _ _ _ (YA6.out.below h) (YB6.out.below h))
  have SS1 : Hid (∀ W, Below W6.heap.size W6 W → Calls Tryd.prog 20 #[.agg #[Value.slice Aa l0.length ca, Value.slice Ab l1.length cb], .agg #[Value.slice Ac l0.length cc, Value.slice Ad l2.length cd]] W fun e w' => e = .returned (.bool d) ∧ Below W.heap.size W w') := Lib.hid (fun W h => by
    have := SigSame_ok Aa Ab Ac Ad l0.length l1.length l0.length l2.length ca cb cc cd l0 l1 l0 l2 (by omega) (by omega) (by omega) (by omega) W (YA6.out.below h) (YB6.out.below h) (YC6.out.below h) (YD6.out.below h)
    rwa [hd, show decide (l0 = l0) = true by simp, Bool.true_and] at this)
  have G1 : Hid (∀ W, Below W6.heap.size W6 W → Sem.run Tryd.prog (convert 22 9 (Value.slice A1 n1 c1)) W = .ok (.string (str l1)) W) := Lib.hid (fun W h => C1.out W (HB6.out.trans (h.mono HB6.out.size)))
  have G2 : Hid (∀ W, Below W6.heap.size W6 W → Sem.run Tryd.prog (convert 22 9 (Value.slice A2 n2 c2)) W = .ok (.string (str l2)) W) := Lib.hid (fun W h => C2.out W (HB6.out.trans (h.mono HB6.out.size)))
  have L0 : Hid (∀ W, Below W6.heap.size W6 W → Calls Tryd.prog 19 #[.slice A0 n0 c0] W fun e w' => e = .returned (.string X0) ∧ W = w') := Lib.hid (fun W h => D0.out W (HB6.out.trans (h.mono HB6.out.size)))
  have L1 : Hid (∀ W, Below W6.heap.size W6 W → Calls Tryd.prog 19 #[.slice A1 n1 c1] W fun e w' => e = .returned (.string X1) ∧ W = w') := Lib.hid (fun W h => D1.out W (HB6.out.trans (h.mono HB6.out.size)))
  have f1 := F1.out
  have f2 := F2.out
  have g0 := E0.out
  clear hW6 b6 kx ka kb z0 z1 z2 n0' n1' n2' hd HQ HD HSt YA6 YB6 YC6 YD6 YA5 YB5 YC5 YD5 KA5 KB5 C1 C2 D0 D1 E0 F1 F2 HN HL HX0 HX1 HX2 P1 PS HM HMe
  generalize str l1 = t1 at G1 g0
  generalize str l2 = t2 at G2 g0
  generalize wb.heap.size = bA at HX9
  generalize wd.heap.size = bB at HX9
  generalize wf.heap.size = bX at HXx
  have HD6 : Hid (Below W6.heap.size W6 W6.drew) := Lib.hid (bdD (Below.refl _ _))
  cases d
  ·
    refine wp_region_held_drew (S := (fun W => Below W6.heap.size W6 W)) (by kernel_rfl) HD6.out (fun hHeld => ?_)
    refine wpAnyH_take (i := 0) (oi := ?oi_53_0) (v := ?_) ?hi_53_0 (by kernel_rfl) ?hf_53_0 (by kernel_rfl) ?hQ_53_0 ?hy_53_0 (by assumption) ?_
    case hi_53_0 => simp only [List.getElem?_toArray, List.getElem?_cons_zero, List.getElem?_cons_succ]; rfl
    case hf_53_0 => kernel_rfl
    case hQ_53_0 => exact fun _ _ _ h => h
    case hy_53_0 =>
      refine Or.inl ⟨by rfl, ?_⟩
      intro W hSw
      have x0 := (HX9.out W hSw).1
      have x1 := (HX9.out W hSw).2.1
      go_simp
      try with_reducible rfl
    try simp only [Act.put, List.setIfInBounds_toArray, List.set_cons_zero, List.set_cons_succ]
    refine wpAnyH_take (i := 2) (oi := ?oi_54_0) (v := ?_) ?hi_54_0 (by kernel_rfl) ?hf_54_0 (by kernel_rfl) ?hQ_54_0 ?hy_54_0 (by assumption) ?_
    case hi_54_0 => simp only [List.getElem?_toArray, List.getElem?_cons_zero, List.getElem?_cons_succ]; rfl
    case hf_54_0 => kernel_rfl
    case hQ_54_0 => exact fun _ _ _ h => h
    case hy_54_0 =>
      refine Or.inl ⟨by rfl, ?_⟩
      intro W hSw
      go_simp
      try with_reducible rfl
    try simp only [Act.put, List.setIfInBounds_toArray, List.set_cons_zero, List.set_cons_succ]
    refine wpAnyH_ready (rs := [1]) (by kernel_rfl) (by simp) ?_
    refine AllReadyH.cons (o := ?oi_55_0) ?hi_55_0 (fun K hK => ?_) AllReadyH.nil
    case hi_55_0 => simp only [List.getElem?_toArray, List.getElem?_cons_zero, List.getElem?_cons_succ]; rfl
    go_simp
    (go_at_call 18
     with_reducible refine (SR1.out _ HD6.out).mono ?_
     rintro e wp ⟨rfl, hbn⟩
     have HBwp : Hid (Below W6.heap.size W6 wp) := Lib.hid (HD6.out.trans (hbn.mono HD6.out.size))
     clear hbn)
    refine hK.out _ _ HBwp.out (fun hHeld => ?_)
    clear hK K
    try simp only [Act.put, List.setIfInBounds_toArray, List.set_cons_zero, List.set_cons_succ]
    refine wpAnyH_take (i := 3) (oi := ?oi_56_0) (v := ?_) ?hi_56_0 (by kernel_rfl) ?hf_56_0 (by kernel_rfl) ?hQ_56_0 ?hy_56_0 (by assumption) ?_
    case hi_56_0 => simp only [List.getElem?_toArray, List.getElem?_cons_zero, List.getElem?_cons_succ]; rfl
    case hf_56_0 => kernel_rfl
    case hQ_56_0 => exact fun _ _ _ h => h
    case hy_56_0 =>
      refine Or.inl ⟨by rfl, ?_⟩
      intro W hSw
      go_simp
      try with_reducible rfl
    try simp only [Act.put, List.setIfInBounds_toArray, List.set_cons_zero, List.set_cons_succ]
    refine wpAnyH_take (i := 4) (oi := ?oi_57_0) (v := ?_) ?hi_57_0 (by kernel_rfl) ?hf_57_0 (by kernel_rfl) ?hQ_57_0 ?hy_57_0 (by assumption) ?_
    case hi_57_0 => simp only [List.getElem?_toArray, List.getElem?_cons_zero, List.getElem?_cons_succ]; rfl
    case hf_57_0 => kernel_rfl
    case hQ_57_0 => exact fun _ _ _ h => h
    case hy_57_0 =>
      refine Or.inl ⟨by rfl, ?_⟩
      intro W hSw
      go_simp
      try with_reducible rfl
    try simp only [Act.put, List.setIfInBounds_toArray, List.set_cons_zero, List.set_cons_succ]
    refine wpAnyH_take (i := 5) (oi := ?oi_58_0) (v := ?_) ?hi_58_0 (by kernel_rfl) ?hf_58_0 (by kernel_rfl) ?hQ_58_0 ?hy_58_0 (by assumption) ?_
    case hi_58_0 => simp only [List.getElem?_toArray, List.getElem?_cons_zero, List.getElem?_cons_succ]; rfl
    case hf_58_0 => kernel_rfl
    case hQ_58_0 => exact fun _ _ _ h => h
    case hy_58_0 =>
      refine Or.inl ⟨by rfl, ?_⟩
      intro W hSw
      have x0 := (HX9.out W hSw).1
      have x1 := (HX9.out W hSw).2.1
      go_simp
      try with_reducible rfl
    try simp only [Act.put, List.setIfInBounds_toArray, List.set_cons_zero, List.set_cons_succ]
    refine wpAnyH_take (i := 7) (oi := ?oi_59_0) (v := ?_) ?hi_59_0 (by kernel_rfl) ?hf_59_0 (by kernel_rfl) ?hQ_59_0 ?hy_59_0 (by assumption) ?_
    case hi_59_0 => simp only [List.getElem?_toArray, List.getElem?_cons_zero, List.getElem?_cons_succ]; rfl
    case hf_59_0 => kernel_rfl
    case hQ_59_0 => exact fun _ _ _ h => h
    case hy_59_0 =>
      refine Or.inl ⟨by rfl, ?_⟩
      intro W hSw
      go_simp
      try with_reducible rfl
    try simp only [Act.put, List.setIfInBounds_toArray, List.set_cons_zero, List.set_cons_succ]
    refine wpAnyH_take (i := 10) (oi := ?oi_60_0) (v := ?_) ?hi_60_0 (by kernel_rfl) ?hf_60_0 (by kernel_rfl) ?hQ_60_0 ?hy_60_0 (by assumption) ?_
    case hi_60_0 => simp only [List.getElem?_toArray, List.getElem?_cons_zero, List.getElem?_cons_succ]; rfl
    case hf_60_0 => kernel_rfl
    case hQ_60_0 => exact fun _ _ _ h => h
    case hy_60_0 =>
      refine Or.inl ⟨by rfl, ?_⟩
      intro W hSw
      go_simp
      try with_reducible rfl
    try simp only [Act.put, List.setIfInBounds_toArray, List.set_cons_zero, List.set_cons_succ]
    refine wpAnyH_ready (rs := [6]) (by kernel_rfl) (by simp) ?_
    refine AllReadyH.cons (o := ?oi_61_0) ?hi_61_0 (fun K hK => ?_) AllReadyH.nil
    case hi_61_0 => simp only [List.getElem?_toArray, List.getElem?_cons_zero, List.getElem?_cons_succ]; rfl
    go_simp
    (go_at_call 17
     with_reducible refine (SP1.out _ HBwp.out).mono ?_
     rintro e wq ⟨rfl, hbn⟩
     have HBwq : Hid (Below W6.heap.size W6 wq) := Lib.hid (HBwp.out.trans (hbn.mono HBwp.out.size))
     clear hbn)
    refine hK.out _ _ HBwq.out (fun hHeld => ?_)
    clear hK K
    try simp only [Act.put, List.setIfInBounds_toArray, List.set_cons_zero, List.set_cons_succ]
    refine wpAnyH_ready (rs := [8]) (by kernel_rfl) (by simp) ?_
    refine AllReadyH.cons (o := ?oi_62_0) ?hi_62_0 (fun K hK => ?_) AllReadyH.nil
    case hi_62_0 => simp only [List.getElem?_toArray, List.getElem?_cons_zero, List.getElem?_cons_succ]; rfl
    go_simp
    (go_at_call 19
     with_reducible refine (L0.out _ HBwq.out).mono ?_
     rintro e wz ⟨rfl, rfl⟩)
    refine hK.out _ _ HBwq.out (fun hHeld => ?_)
    clear hK K
    try simp only [Act.put, List.setIfInBounds_toArray, List.set_cons_zero, List.set_cons_succ]
    refine wpAnyH_take (i := 9) (oi := ?oi_63_0) (v := ?_) ?hi_63_0 (by kernel_rfl) ?hf_63_0 (by kernel_rfl) ?hQ_63_0 ?hy_63_0 (by assumption) ?_
    case hi_63_0 => simp only [List.getElem?_toArray, List.getElem?_cons_zero, List.getElem?_cons_succ]; rfl
    case hf_63_0 => kernel_rfl
    case hQ_63_0 => exact fun _ _ _ h => h
    case hy_63_0 =>
      refine Or.inl ⟨by rfl, ?_⟩
      intro W hSw
      go_simp
      try with_reducible rfl
    try simp only [Act.put, List.setIfInBounds_toArray, List.set_cons_zero, List.set_cons_succ]
    refine wpAnyH_ready (rs := [11]) (by kernel_rfl) (by simp) ?_
    refine AllReadyH.cons (o := ?oi_64_0) ?hi_64_0 (fun K hK => ?_) AllReadyH.nil
    case hi_64_0 => simp only [List.getElem?_toArray, List.getElem?_cons_zero, List.getElem?_cons_succ]; rfl
    go_simp
    (go_at_call 19
     with_reducible refine (L1.out _ HBwq.out).mono ?_
     rintro e wz ⟨rfl, rfl⟩)
    refine hK.out _ _ HBwq.out (fun hHeld => ?_)
    clear hK K
    try simp only [Act.put, List.setIfInBounds_toArray, List.set_cons_zero, List.set_cons_succ]
    refine wpAnyH_take (i := 12) (oi := ?oi_65_0) (v := ?_) ?hi_65_0 (by kernel_rfl) ?hf_65_0 (by kernel_rfl) ?hQ_65_0 ?hy_65_0 (by assumption) ?_
    case hi_65_0 => simp only [List.getElem?_toArray, List.getElem?_cons_zero, List.getElem?_cons_succ]; rfl
    case hf_65_0 => kernel_rfl
    case hQ_65_0 => exact fun _ _ _ h => h
    case hy_65_0 =>
      refine Or.inl ⟨by rfl, ?_⟩
      intro W hSw
      go_simp
      try with_reducible rfl
    try simp only [Act.put, List.setIfInBounds_toArray, List.set_cons_zero, List.set_cons_succ]
    refine wpAnyH_take (i := 13) (oi := ?oi_66_0) (v := ?_) ?hi_66_0 (by kernel_rfl) ?hf_66_0 (by kernel_rfl) ?hQ_66_0 ?hy_66_0 (by assumption) ?_
    case hi_66_0 => simp only [List.getElem?_toArray, List.getElem?_cons_zero, List.getElem?_cons_succ]; rfl
    case hf_66_0 => kernel_rfl
    case hQ_66_0 => exact fun _ _ _ h => h
    case hy_66_0 =>
      refine Or.inl ⟨by rfl, ?_⟩
      intro W hSw
      go_simp
      try with_reducible rfl
    try simp only [Act.put, List.setIfInBounds_toArray, List.set_cons_zero, List.set_cons_succ]
    refine wpAnyH_take (i := 14) (oi := ?oi_67_0) (v := ?_) ?hi_67_0 (by kernel_rfl) ?hf_67_0 (by kernel_rfl) ?hQ_67_0 ?hy_67_0 (by assumption) ?_
    case hi_67_0 => simp only [List.getElem?_toArray, List.getElem?_cons_zero, List.getElem?_cons_succ]; rfl
    case hf_67_0 => kernel_rfl
    case hQ_67_0 => exact fun _ _ _ h => h
    case hy_67_0 =>
      refine Or.inl ⟨by rfl, ?_⟩
      intro W hSw
      go_simp
      try with_reducible rfl
    try simp only [Act.put, List.setIfInBounds_toArray, List.set_cons_zero, List.set_cons_succ]
    refine wpAnyH_take (i := 15) (oi := ?oi_68_0) (v := ?_) ?hi_68_0 (by kernel_rfl) ?hf_68_0 (by kernel_rfl) ?hQ_68_0 ?hy_68_0 (by assumption) ?_
    case hi_68_0 => simp only [List.getElem?_toArray, List.getElem?_cons_zero, List.getElem?_cons_succ]; rfl
    case hf_68_0 => kernel_rfl
    case hQ_68_0 => exact fun _ _ _ h => h
    case hy_68_0 =>
      refine Or.inl ⟨by rfl, ?_⟩
      intro W hSw
      go_simp
      try with_reducible rfl
    try simp only [Act.put, List.setIfInBounds_toArray, List.set_cons_zero, List.set_cons_succ]
    refine wpAnyH_take (i := 16) (oi := ?oi_69_0) (v := ?_) ?hi_69_0 (by kernel_rfl) ?hf_69_0 (by kernel_rfl) ?hQ_69_0 ?hy_69_0 (by assumption) ?_
    case hi_69_0 => simp only [List.getElem?_toArray, List.getElem?_cons_zero, List.getElem?_cons_succ]; rfl
    case hf_69_0 => kernel_rfl
    case hQ_69_0 => exact fun _ _ _ h => h
    case hy_69_0 =>
      refine Or.inl ⟨by rfl, ?_⟩
      intro W hSw
      have x0 := (HX9.out W hSw).1
      have x1 := (HX9.out W hSw).2.1
      go_simp
      try with_reducible rfl
    try simp only [Act.put, List.setIfInBounds_toArray, List.set_cons_zero, List.set_cons_succ]
    refine wpAnyH_take (i := 17) (oi := ?oi_70_0) (v := ?_) ?hi_70_0 (by kernel_rfl) ?hf_70_0 (by kernel_rfl) ?hQ_70_0 ?hy_70_0 (by assumption) ?_
    case hi_70_0 => simp only [List.getElem?_toArray, List.getElem?_cons_zero, List.getElem?_cons_succ]; rfl
    case hf_70_0 => kernel_rfl
    case hQ_70_0 => exact fun _ _ _ h => h
    case hy_70_0 =>
      refine Or.inl ⟨by rfl, ?_⟩
      intro W hSw
      have x0 := (HX9.out W hSw).2.2.1
      have x1 := (HX9.out W hSw).2.2.2
      go_simp
      try with_reducible rfl
    try simp only [Act.put, List.setIfInBounds_toArray, List.set_cons_zero, List.set_cons_succ]
    refine wpAnyH_take (i := 19) (oi := ?oi_71_0) (v := ?_) ?hi_71_0 (by kernel_rfl) ?hf_71_0 (by kernel_rfl) ?hQ_71_0 ?hy_71_0 (by assumption) ?_
    case hi_71_0 => simp only [List.getElem?_toArray, List.getElem?_cons_zero, List.getElem?_cons_succ]; rfl
    case hf_71_0 => kernel_rfl
    case hQ_71_0 => exact fun _ _ _ h => h
    case hy_71_0 =>
      refine Or.inl ⟨by rfl, ?_⟩
      intro W hSw
      go_simp
      try with_reducible rfl
    try simp only [Act.put, List.setIfInBounds_toArray, List.set_cons_zero, List.set_cons_succ]
    refine wpAnyH_take (i := 20) (oi := ?oi_72_0) (v := ?_) ?hi_72_0 (by kernel_rfl) ?hf_72_0 (by kernel_rfl) ?hQ_72_0 ?hy_72_0 (by assumption) ?_
    case hi_72_0 => simp only [List.getElem?_toArray, List.getElem?_cons_zero, List.getElem?_cons_succ]; rfl
    case hf_72_0 => kernel_rfl
    case hQ_72_0 => exact fun _ _ _ h => h
    case hy_72_0 =>
      refine Or.inl ⟨by rfl, ?_⟩
      intro W hSw
      have xc := G1.out W hSw
      go_simp
      try with_reducible rfl
    try simp only [Act.put, List.setIfInBounds_toArray, List.set_cons_zero, List.set_cons_succ]
    refine wpAnyH_take (i := 21) (oi := ?oi_73_0) (v := ?_) ?hi_73_0 (by kernel_rfl) ?hf_73_0 (by kernel_rfl) ?hQ_73_0 ?hy_73_0 (by assumption) ?_
    case hi_73_0 => simp only [List.getElem?_toArray, List.getElem?_cons_zero, List.getElem?_cons_succ]; rfl
    case hf_73_0 => kernel_rfl
    case hQ_73_0 => exact fun _ _ _ h => h
    case hy_73_0 =>
      refine Or.inl ⟨by rfl, ?_⟩
      intro W hSw
      go_simp
      try with_reducible rfl
    try simp only [Act.put, List.setIfInBounds_toArray, List.set_cons_zero, List.set_cons_succ]
    refine wpAnyH_take (i := 22) (oi := ?oi_74_0) (v := ?_) ?hi_74_0 (by kernel_rfl) ?hf_74_0 (by kernel_rfl) ?hQ_74_0 ?hy_74_0 (by assumption) ?_
    case hi_74_0 => simp only [List.getElem?_toArray, List.getElem?_cons_zero, List.getElem?_cons_succ]; rfl
    case hf_74_0 => kernel_rfl
    case hQ_74_0 => exact fun _ _ _ h => h
    case hy_74_0 =>
      refine Or.inl ⟨by rfl, ?_⟩
      intro W hSw
      have xc := G2.out W hSw
      go_simp
      try with_reducible rfl
    try simp only [Act.put, List.setIfInBounds_toArray, List.set_cons_zero, List.set_cons_succ]
    refine wpAnyH_take (i := 23) (oi := ?oi_75_0) (v := ?_) ?hi_75_0 (by kernel_rfl) ?hf_75_0 (by kernel_rfl) ?hQ_75_0 ?hy_75_0 (by assumption) ?_
    case hi_75_0 => simp only [List.getElem?_toArray, List.getElem?_cons_zero, List.getElem?_cons_succ]; rfl
    case hf_75_0 => kernel_rfl
    case hQ_75_0 => exact fun _ _ _ h => h
    case hy_75_0 =>
      refine Or.inl ⟨by rfl, ?_⟩
      intro W hSw
      go_simp
      try with_reducible rfl
    try simp only [Act.put, List.setIfInBounds_toArray, List.set_cons_zero, List.set_cons_succ]
    refine wpAnyH_ready (rs := [18]) (by kernel_rfl) (by simp) ?_
    refine AllReadyH.cons (o := ?oi_76_0) ?hi_76_0 (fun K hK => ?_) AllReadyH.nil
    case hi_76_0 => simp only [List.getElem?_toArray, List.getElem?_cons_zero, List.getElem?_cons_succ]; rfl
    go_simp
    (go_at_call 20
     with_reducible refine (SS1.out _ HBwq.out).mono ?_
     rintro e wr ⟨rfl, hbn⟩
     have HBwr : Hid (Below W6.heap.size W6 wr) := Lib.hid (HBwq.out.trans (hbn.mono HBwq.out.size))
     clear hbn)
    refine hK.out _ _ HBwr.out (fun hHeld => ?_)
    clear hK K
    try simp only [Act.put, List.setIfInBounds_toArray, List.set_cons_zero, List.set_cons_succ]
    refine wpAnyH_take (i := 24) (oi := ?oi_77_0) (v := ?_) ?hi_77_0 (by kernel_rfl) ?hf_77_0 (by kernel_rfl) ?hQ_77_0 ?hy_77_0 (by assumption) ?_
    case hi_77_0 => simp only [List.getElem?_toArray, List.getElem?_cons_zero, List.getElem?_cons_succ]; rfl
    case hf_77_0 => kernel_rfl
    case hQ_77_0 => exact fun _ _ _ h => h
    case hy_77_0 =>
      refine Or.inl ⟨by rfl, ?_⟩
      intro W hSw
      go_simp
      try with_reducible rfl
    try simp only [Act.put, List.setIfInBounds_toArray, List.set_cons_zero, List.set_cons_succ]
    refine wpAnyH_take (i := 25) (oi := ?oi_78_0) (v := ?_) ?hi_78_0 (by kernel_rfl) ?hf_78_0 (by kernel_rfl) ?hQ_78_0 ?hy_78_0 (by assumption) ?_
    case hi_78_0 => simp only [List.getElem?_toArray, List.getElem?_cons_zero, List.getElem?_cons_succ]; rfl
    case hf_78_0 => kernel_rfl
    case hQ_78_0 => exact fun _ _ _ h => h
    case hy_78_0 =>
      refine Or.inl ⟨by rfl, ?_⟩
      intro W hSw
      go_simp
      try with_reducible rfl
    try simp only [Act.put, List.setIfInBounds_toArray, List.set_cons_zero, List.set_cons_succ]
    refine wpAnyH_done (by kernel_rfl) ?_ _
    clear hHeld
    have x2 := (HXx.out _ HBwr.out).cell 0
    have x3 := (HXx.out _ HBwr.out).cell 1
    go_wp2
    go_ret
    exact ⟨by simp, HB6.out.trans (HBwr.out.mono HB6.out.size)⟩
  ·
    refine wp_region_held_drew (S := (fun W => Below W6.heap.size W6 W)) (by kernel_rfl) HD6.out (fun hHeld => ?_)
    refine wpAnyH_take (i := 0) (oi := ?oi_79_1) (v := ?_) ?hi_79_1 (by kernel_rfl) ?hf_79_1 (by kernel_rfl) ?hQ_79_1 ?hy_79_1 (by assumption) ?_
    case hi_79_1 => simp only [List.getElem?_toArray, List.getElem?_cons_zero, List.getElem?_cons_succ]; rfl
    case hf_79_1 => kernel_rfl
    case hQ_79_1 => exact fun _ _ _ h => h
    case hy_79_1 =>
      refine Or.inl ⟨by rfl, ?_⟩
      intro W hSw
      have x0 := (HX9.out W hSw).1
      have x1 := (HX9.out W hSw).2.1
      go_simp
      try with_reducible rfl
    try simp only [Act.put, List.setIfInBounds_toArray, List.set_cons_zero, List.set_cons_succ]
    refine wpAnyH_take (i := 2) (oi := ?oi_80_1) (v := ?_) ?hi_80_1 (by kernel_rfl) ?hf_80_1 (by kernel_rfl) ?hQ_80_1 ?hy_80_1 (by assumption) ?_
    case hi_80_1 => simp only [List.getElem?_toArray, List.getElem?_cons_zero, List.getElem?_cons_succ]; rfl
    case hf_80_1 => kernel_rfl
    case hQ_80_1 => exact fun _ _ _ h => h
    case hy_80_1 =>
      refine Or.inl ⟨by rfl, ?_⟩
      intro W hSw
      go_simp
      try with_reducible rfl
    try simp only [Act.put, List.setIfInBounds_toArray, List.set_cons_zero, List.set_cons_succ]
    refine wpAnyH_ready (rs := [1]) (by kernel_rfl) (by simp) ?_
    refine AllReadyH.cons (o := ?oi_81_1) ?hi_81_1 (fun K hK => ?_) AllReadyH.nil
    case hi_81_1 => simp only [List.getElem?_toArray, List.getElem?_cons_zero, List.getElem?_cons_succ]; rfl
    go_simp
    (go_at_call 18
     with_reducible refine (SR1.out _ HD6.out).mono ?_
     rintro e wp ⟨rfl, hbn⟩
     have HBwp : Hid (Below W6.heap.size W6 wp) := Lib.hid (HD6.out.trans (hbn.mono HD6.out.size))
     clear hbn)
    refine hK.out _ _ HBwp.out (fun hHeld => ?_)
    clear hK K
    try simp only [Act.put, List.setIfInBounds_toArray, List.set_cons_zero, List.set_cons_succ]
    refine wpAnyH_take (i := 3) (oi := ?oi_82_1) (v := ?_) ?hi_82_1 (by kernel_rfl) ?hf_82_1 (by kernel_rfl) ?hQ_82_1 ?hy_82_1 (by assumption) ?_
    case hi_82_1 => simp only [List.getElem?_toArray, List.getElem?_cons_zero, List.getElem?_cons_succ]; rfl
    case hf_82_1 => kernel_rfl
    case hQ_82_1 => exact fun _ _ _ h => h
    case hy_82_1 =>
      refine Or.inl ⟨by rfl, ?_⟩
      intro W hSw
      go_simp
      try with_reducible rfl
    try simp only [Act.put, List.setIfInBounds_toArray, List.set_cons_zero, List.set_cons_succ]
    refine wpAnyH_take (i := 4) (oi := ?oi_83_1) (v := ?_) ?hi_83_1 (by kernel_rfl) ?hf_83_1 (by kernel_rfl) ?hQ_83_1 ?hy_83_1 (by assumption) ?_
    case hi_83_1 => simp only [List.getElem?_toArray, List.getElem?_cons_zero, List.getElem?_cons_succ]; rfl
    case hf_83_1 => kernel_rfl
    case hQ_83_1 => exact fun _ _ _ h => h
    case hy_83_1 =>
      refine Or.inl ⟨by rfl, ?_⟩
      intro W hSw
      go_simp
      try with_reducible rfl
    try simp only [Act.put, List.setIfInBounds_toArray, List.set_cons_zero, List.set_cons_succ]
    refine wpAnyH_take (i := 5) (oi := ?oi_84_1) (v := ?_) ?hi_84_1 (by kernel_rfl) ?hf_84_1 (by kernel_rfl) ?hQ_84_1 ?hy_84_1 (by assumption) ?_
    case hi_84_1 => simp only [List.getElem?_toArray, List.getElem?_cons_zero, List.getElem?_cons_succ]; rfl
    case hf_84_1 => kernel_rfl
    case hQ_84_1 => exact fun _ _ _ h => h
    case hy_84_1 =>
      refine Or.inl ⟨by rfl, ?_⟩
      intro W hSw
      have x0 := (HX9.out W hSw).1
      have x1 := (HX9.out W hSw).2.1
      go_simp
      try with_reducible rfl
    try simp only [Act.put, List.setIfInBounds_toArray, List.set_cons_zero, List.set_cons_succ]
    refine wpAnyH_take (i := 7) (oi := ?oi_85_1) (v := ?_) ?hi_85_1 (by kernel_rfl) ?hf_85_1 (by kernel_rfl) ?hQ_85_1 ?hy_85_1 (by assumption) ?_
    case hi_85_1 => simp only [List.getElem?_toArray, List.getElem?_cons_zero, List.getElem?_cons_succ]; rfl
    case hf_85_1 => kernel_rfl
    case hQ_85_1 => exact fun _ _ _ h => h
    case hy_85_1 =>
      refine Or.inl ⟨by rfl, ?_⟩
      intro W hSw
      go_simp
      try with_reducible rfl
    try simp only [Act.put, List.setIfInBounds_toArray, List.set_cons_zero, List.set_cons_succ]
    refine wpAnyH_take (i := 10) (oi := ?oi_86_1) (v := ?_) ?hi_86_1 (by kernel_rfl) ?hf_86_1 (by kernel_rfl) ?hQ_86_1 ?hy_86_1 (by assumption) ?_
    case hi_86_1 => simp only [List.getElem?_toArray, List.getElem?_cons_zero, List.getElem?_cons_succ]; rfl
    case hf_86_1 => kernel_rfl
    case hQ_86_1 => exact fun _ _ _ h => h
    case hy_86_1 =>
      refine Or.inl ⟨by rfl, ?_⟩
      intro W hSw
      go_simp
      try with_reducible rfl
    try simp only [Act.put, List.setIfInBounds_toArray, List.set_cons_zero, List.set_cons_succ]
    refine wpAnyH_ready (rs := [6]) (by kernel_rfl) (by simp) ?_
    refine AllReadyH.cons (o := ?oi_87_1) ?hi_87_1 (fun K hK => ?_) AllReadyH.nil
    case hi_87_1 => simp only [List.getElem?_toArray, List.getElem?_cons_zero, List.getElem?_cons_succ]; rfl
    go_simp
    (go_at_call 17
     with_reducible refine (SP1.out _ HBwp.out).mono ?_
     rintro e wq ⟨rfl, hbn⟩
     have HBwq : Hid (Below W6.heap.size W6 wq) := Lib.hid (HBwp.out.trans (hbn.mono HBwp.out.size))
     clear hbn)
    refine hK.out _ _ HBwq.out (fun hHeld => ?_)
    clear hK K
    try simp only [Act.put, List.setIfInBounds_toArray, List.set_cons_zero, List.set_cons_succ]
    refine wpAnyH_ready (rs := [8]) (by kernel_rfl) (by simp) ?_
    refine AllReadyH.cons (o := ?oi_88_1) ?hi_88_1 (fun K hK => ?_) AllReadyH.nil
    case hi_88_1 => simp only [List.getElem?_toArray, List.getElem?_cons_zero, List.getElem?_cons_succ]; rfl
    go_simp
    (go_at_call 19
     with_reducible refine (L0.out _ HBwq.out).mono ?_
     rintro e wz ⟨rfl, rfl⟩)
    refine hK.out _ _ HBwq.out (fun hHeld => ?_)
    clear hK K
    try simp only [Act.put, List.setIfInBounds_toArray, List.set_cons_zero, List.set_cons_succ]
    refine wpAnyH_take (i := 9) (oi := ?oi_89_1) (v := ?_) ?hi_89_1 (by kernel_rfl) ?hf_89_1 (by kernel_rfl) ?hQ_89_1 ?hy_89_1 (by assumption) ?_
    case hi_89_1 => simp only [List.getElem?_toArray, List.getElem?_cons_zero, List.getElem?_cons_succ]; rfl
    case hf_89_1 => kernel_rfl
    case hQ_89_1 => exact fun _ _ _ h => h
    case hy_89_1 =>
      refine Or.inl ⟨by rfl, ?_⟩
      intro W hSw
      go_simp
      try with_reducible rfl
    try simp only [Act.put, List.setIfInBounds_toArray, List.set_cons_zero, List.set_cons_succ]
    refine wpAnyH_ready (rs := [11]) (by kernel_rfl) (by simp) ?_
    refine AllReadyH.cons (o := ?oi_90_1) ?hi_90_1 (fun K hK => ?_) AllReadyH.nil
    case hi_90_1 => simp only [List.getElem?_toArray, List.getElem?_cons_zero, List.getElem?_cons_succ]; rfl
    go_simp
    (go_at_call 19
     with_reducible refine (L1.out _ HBwq.out).mono ?_
     rintro e wz ⟨rfl, rfl⟩)
    refine hK.out _ _ HBwq.out (fun hHeld => ?_)
    clear hK K
    try simp only [Act.put, List.setIfInBounds_toArray, List.set_cons_zero, List.set_cons_succ]
    refine wpAnyH_take (i := 12) (oi := ?oi_91_1) (v := ?_) ?hi_91_1 (by kernel_rfl) ?hf_91_1 (by kernel_rfl) ?hQ_91_1 ?hy_91_1 (by assumption) ?_
    case hi_91_1 => simp only [List.getElem?_toArray, List.getElem?_cons_zero, List.getElem?_cons_succ]; rfl
    case hf_91_1 => kernel_rfl
    case hQ_91_1 => exact fun _ _ _ h => h
    case hy_91_1 =>
      refine Or.inl ⟨by rfl, ?_⟩
      intro W hSw
      go_simp
      try with_reducible rfl
    try simp only [Act.put, List.setIfInBounds_toArray, List.set_cons_zero, List.set_cons_succ]
    refine wpAnyH_take (i := 13) (oi := ?oi_92_1) (v := ?_) ?hi_92_1 (by kernel_rfl) ?hf_92_1 (by kernel_rfl) ?hQ_92_1 ?hy_92_1 (by assumption) ?_
    case hi_92_1 => simp only [List.getElem?_toArray, List.getElem?_cons_zero, List.getElem?_cons_succ]; rfl
    case hf_92_1 => kernel_rfl
    case hQ_92_1 => exact fun _ _ _ h => h
    case hy_92_1 =>
      refine Or.inl ⟨by rfl, ?_⟩
      intro W hSw
      go_simp
      try with_reducible rfl
    try simp only [Act.put, List.setIfInBounds_toArray, List.set_cons_zero, List.set_cons_succ]
    refine wpAnyH_take (i := 14) (oi := ?oi_93_1) (v := ?_) ?hi_93_1 (by kernel_rfl) ?hf_93_1 (by kernel_rfl) ?hQ_93_1 ?hy_93_1 (by assumption) ?_
    case hi_93_1 => simp only [List.getElem?_toArray, List.getElem?_cons_zero, List.getElem?_cons_succ]; rfl
    case hf_93_1 => kernel_rfl
    case hQ_93_1 => exact fun _ _ _ h => h
    case hy_93_1 =>
      refine Or.inl ⟨by rfl, ?_⟩
      intro W hSw
      go_simp
      try with_reducible rfl
    try simp only [Act.put, List.setIfInBounds_toArray, List.set_cons_zero, List.set_cons_succ]
    refine wpAnyH_take (i := 15) (oi := ?oi_94_1) (v := ?_) ?hi_94_1 (by kernel_rfl) ?hf_94_1 (by kernel_rfl) ?hQ_94_1 ?hy_94_1 (by assumption) ?_
    case hi_94_1 => simp only [List.getElem?_toArray, List.getElem?_cons_zero, List.getElem?_cons_succ]; rfl
    case hf_94_1 => kernel_rfl
    case hQ_94_1 => exact fun _ _ _ h => h
    case hy_94_1 =>
      refine Or.inl ⟨by rfl, ?_⟩
      intro W hSw
      go_simp
      try with_reducible rfl
    try simp only [Act.put, List.setIfInBounds_toArray, List.set_cons_zero, List.set_cons_succ]
    refine wpAnyH_take (i := 16) (oi := ?oi_95_1) (v := ?_) ?hi_95_1 (by kernel_rfl) ?hf_95_1 (by kernel_rfl) ?hQ_95_1 ?hy_95_1 (by assumption) ?_
    case hi_95_1 => simp only [List.getElem?_toArray, List.getElem?_cons_zero, List.getElem?_cons_succ]; rfl
    case hf_95_1 => kernel_rfl
    case hQ_95_1 => exact fun _ _ _ h => h
    case hy_95_1 =>
      refine Or.inl ⟨by rfl, ?_⟩
      intro W hSw
      have x0 := (HX9.out W hSw).1
      have x1 := (HX9.out W hSw).2.1
      go_simp
      try with_reducible rfl
    try simp only [Act.put, List.setIfInBounds_toArray, List.set_cons_zero, List.set_cons_succ]
    refine wpAnyH_take (i := 17) (oi := ?oi_96_1) (v := ?_) ?hi_96_1 (by kernel_rfl) ?hf_96_1 (by kernel_rfl) ?hQ_96_1 ?hy_96_1 (by assumption) ?_
    case hi_96_1 => simp only [List.getElem?_toArray, List.getElem?_cons_zero, List.getElem?_cons_succ]; rfl
    case hf_96_1 => kernel_rfl
    case hQ_96_1 => exact fun _ _ _ h => h
    case hy_96_1 =>
      refine Or.inl ⟨by rfl, ?_⟩
      intro W hSw
      have x0 := (HX9.out W hSw).2.2.1
      have x1 := (HX9.out W hSw).2.2.2
      go_simp
      try with_reducible rfl
    try simp only [Act.put, List.setIfInBounds_toArray, List.set_cons_zero, List.set_cons_succ]
    refine wpAnyH_take (i := 19) (oi := ?oi_97_1) (v := ?_) ?hi_97_1 (by kernel_rfl) ?hf_97_1 (by kernel_rfl) ?hQ_97_1 ?hy_97_1 (by assumption) ?_
    case hi_97_1 => simp only [List.getElem?_toArray, List.getElem?_cons_zero, List.getElem?_cons_succ]; rfl
    case hf_97_1 => kernel_rfl
    case hQ_97_1 => exact fun _ _ _ h => h
    case hy_97_1 =>
      refine Or.inl ⟨by rfl, ?_⟩
      intro W hSw
      go_simp
      try with_reducible rfl
    try simp only [Act.put, List.setIfInBounds_toArray, List.set_cons_zero, List.set_cons_succ]
    refine wpAnyH_take (i := 20) (oi := ?oi_98_1) (v := ?_) ?hi_98_1 (by kernel_rfl) ?hf_98_1 (by kernel_rfl) ?hQ_98_1 ?hy_98_1 (by assumption) ?_
    case hi_98_1 => simp only [List.getElem?_toArray, List.getElem?_cons_zero, List.getElem?_cons_succ]; rfl
    case hf_98_1 => kernel_rfl
    case hQ_98_1 => exact fun _ _ _ h => h
    case hy_98_1 =>
      refine Or.inl ⟨by rfl, ?_⟩
      intro W hSw
      have xc := G1.out W hSw
      go_simp
      try with_reducible rfl
    try simp only [Act.put, List.setIfInBounds_toArray, List.set_cons_zero, List.set_cons_succ]
    refine wpAnyH_take (i := 21) (oi := ?oi_99_1) (v := ?_) ?hi_99_1 (by kernel_rfl) ?hf_99_1 (by kernel_rfl) ?hQ_99_1 ?hy_99_1 (by assumption) ?_
    case hi_99_1 => simp only [List.getElem?_toArray, List.getElem?_cons_zero, List.getElem?_cons_succ]; rfl
    case hf_99_1 => kernel_rfl
    case hQ_99_1 => exact fun _ _ _ h => h
    case hy_99_1 =>
      refine Or.inl ⟨by rfl, ?_⟩
      intro W hSw
      go_simp
      try with_reducible rfl
    try simp only [Act.put, List.setIfInBounds_toArray, List.set_cons_zero, List.set_cons_succ]
    refine wpAnyH_take (i := 22) (oi := ?oi_100_1) (v := ?_) ?hi_100_1 (by kernel_rfl) ?hf_100_1 (by kernel_rfl) ?hQ_100_1 ?hy_100_1 (by assumption) ?_
    case hi_100_1 => simp only [List.getElem?_toArray, List.getElem?_cons_zero, List.getElem?_cons_succ]; rfl
    case hf_100_1 => kernel_rfl
    case hQ_100_1 => exact fun _ _ _ h => h
    case hy_100_1 =>
      refine Or.inl ⟨by rfl, ?_⟩
      intro W hSw
      have xc := G2.out W hSw
      go_simp
      try with_reducible rfl
    try simp only [Act.put, List.setIfInBounds_toArray, List.set_cons_zero, List.set_cons_succ]
    refine wpAnyH_take (i := 23) (oi := ?oi_101_1) (v := ?_) ?hi_101_1 (by kernel_rfl) ?hf_101_1 (by kernel_rfl) ?hQ_101_1 ?hy_101_1 (by assumption) ?_
    case hi_101_1 => simp only [List.getElem?_toArray, List.getElem?_cons_zero, List.getElem?_cons_succ]; rfl
    case hf_101_1 => kernel_rfl
    case hQ_101_1 => exact fun _ _ _ h => h
    case hy_101_1 =>
      refine Or.inl ⟨by rfl, ?_⟩
      intro W hSw
      go_simp
      try with_reducible rfl
    try simp only [Act.put, List.setIfInBounds_toArray, List.set_cons_zero, List.set_cons_succ]
    refine wpAnyH_ready (rs := [18]) (by kernel_rfl) (by simp) ?_
    refine AllReadyH.cons (o := ?oi_102_1) ?hi_102_1 (fun K hK => ?_) AllReadyH.nil
    case hi_102_1 => simp only [List.getElem?_toArray, List.getElem?_cons_zero, List.getElem?_cons_succ]; rfl
    go_simp
    (go_at_call 20
     with_reducible refine (SS1.out _ HBwq.out).mono ?_
     rintro e wr ⟨rfl, hbn⟩
     have HBwr : Hid (Below W6.heap.size W6 wr) := Lib.hid (HBwq.out.trans (hbn.mono HBwq.out.size))
     clear hbn)
    refine hK.out _ _ HBwr.out (fun hHeld => ?_)
    clear hK K
    try simp only [Act.put, List.setIfInBounds_toArray, List.set_cons_zero, List.set_cons_succ]
    refine wpAnyH_take (i := 24) (oi := ?oi_103_1) (v := ?_) ?hi_103_1 (by kernel_rfl) ?hf_103_1 (by kernel_rfl) ?hQ_103_1 ?hy_103_1 (by assumption) ?_
    case hi_103_1 => simp only [List.getElem?_toArray, List.getElem?_cons_zero, List.getElem?_cons_succ]; rfl
    case hf_103_1 => kernel_rfl
    case hQ_103_1 => exact fun _ _ _ h => h
    case hy_103_1 =>
      refine Or.inl ⟨by rfl, ?_⟩
      intro W hSw
      go_simp
      try with_reducible rfl
    try simp only [Act.put, List.setIfInBounds_toArray, List.set_cons_zero, List.set_cons_succ]
    refine wpAnyH_take (i := 25) (oi := ?oi_104_1) (v := ?_) ?hi_104_1 (by kernel_rfl) ?hf_104_1 (by kernel_rfl) ?hQ_104_1 ?hy_104_1 (by assumption) ?_
    case hi_104_1 => simp only [List.getElem?_toArray, List.getElem?_cons_zero, List.getElem?_cons_succ]; rfl
    case hf_104_1 => kernel_rfl
    case hQ_104_1 => exact fun _ _ _ h => h
    case hy_104_1 =>
      refine Or.inl ⟨by rfl, ?_⟩
      intro W hSw
      go_simp
      try with_reducible rfl
    try simp only [Act.put, List.setIfInBounds_toArray, List.set_cons_zero, List.set_cons_succ]
    refine wpAnyH_done (by kernel_rfl) ?_ _
    clear hHeld
    have x2 := (HXx.out _ HBwr.out).cell 0
    have x3 := (HXx.out _ HBwr.out).cell 1
    go_wp2
    go_ret
    exact ⟨by simp, HB6.out.trans (HBwr.out.mono HB6.out.size)⟩
set_option maxHeartbeats 8000000 in
set_option maxRecDepth 100000 in
theorem print_no2 (A0 A1 A2 : Option Addr) (n0 n1 n2 c0 c1 c2 : Nat) (l0 l1 l2 : List Nat) (S0 : ByteArray) (d : Bool) (w : World) (hM : Mx w) (h0 : n0 ≤ 30) (h1 : n1 ≤ 30) (h2 : n2 ≤ 30)
    (y0 : Byt w A0 n0 c0 l0) (y1 : Byt w A1 n1 c1 l1) (y2 : Byt w A2 n2 c2 l2) (hq0 : okL l0 = true) (hq1 : okL l1 = false)
    (hS : S0 = ⟨(sgT l0 l1).toArray⟩) (hd : decide (l1 = l2) = d) :
    Calls Tryd.prog 3 #[.slice A0 n0 c0, .slice A1 n1 c1, .slice A2 n2 c2] w fun e w' => e = .returned (.bool true) ∧ Below w.heap.size w w' := by
  have HM := Lib.hid hM
  obtain ⟨m, h5, hm⟩ := hM
  have HA := Lib.hid (awake9_any m w h5 hm)
  have R0 := Lib.hid (fun W (b : Below w.heap.size w W) => hq0 ▸ lawRight_ok A0 n0 c0 l0 (by omega) W (y0.below b))
  have R1 := Lib.hid (fun W (b : Below w.heap.size w W) => hq1 ▸ lawRight_ok A1 n1 c1 l1 (by omega) W (y1.below b))
  have T0 := Lib.hid (fun W (b : Below w.heap.size w W) => To_ok A0 n0 c0 l0 (by omega) W (y0.below b))
  have T1 := Lib.hid (fun W (b : Below w.heap.size w W) => To_ok A1 n1 c1 l1 (by omega) W (y1.below b))
  have T2 := Lib.hid (fun W (b : Below w.heap.size w W) => To_ok A2 n2 c2 l2 (by omega) W (y2.below b))
  have C1 := Lib.hid (fun W (b : Below w.heap.size w W) => conv_byt (y1.below b))
  have C2 := Lib.hid (fun W (b : Below w.heap.size w W) => conv_byt (y2.below b))
  have D0 := Lib.hid (fun W (b : Below w.heap.size w W) => List_txt A0 n0 c0 l0 (by omega) W (y0.below b))
  have D1 := Lib.hid (fun W (b : Below w.heap.size w W) => List_txt A1 n1 c1 l1 (by omega) W (y1.below b))
  have z0 : (txtL l0).size ≤ 4002 := by have := txtL_size l0; have := y0.1; omega
  have z1 : (txtL l1).size ≤ 4002 := by have := txtL_size l1; have := y1.1; omega
  have F1 := Lib.hid (cat_ok (txtL l0) ⟨#[45, 62]⟩ (by have : (⟨#[45, 62]⟩ : ByteArray).size = 2 := rfl; omega))
  have F2 : Hid (Op.stringOp .add (txtL l0 ++ ⟨#[45, 62]⟩) (txtL l1) = pure (.string S0)) := Lib.hid (by
    rw [cat_ok (txtL l0 ++ ⟨#[45, 62]⟩) (txtL l1) (by have : (⟨#[45, 62]⟩ : ByteArray).size = 2 := rfl; rw [app_size]; omega), cat_eq, hS])
  have hst : (S0.toList == S0.toList) = true := by simp
  have k0 : ¬ (30 : Int) < (n0 : Int) := by omega
  have k1 : ¬ (30 : Int) < (n1 : Int) := by omega
  have k2 : ¬ (30 : Int) < (n2 : Int) := by omega
  have E0 := Lib.hid (hd ▸ str_eq l1 l2 y1.2.1 y2.2.1)
  have HX0 := Lib.hid y0.2.1
  have HX1 := Lib.hid y1.2.1
  have HX2 := Lib.hid y2.2.1
  have HL := Lib.hid (And.intro y0.1 (And.intro y1.1 y2.1))
  have HN := Lib.hid (And.intro h0 (And.intro h1 h2))
  have HD := Lib.hid hd
  have HQ : Hid ((okL l0 && okL l1) = false) := Lib.hid (by rw [hq0, hq1]; rfl)
  have HSt := Lib.hid hS
  clear hm h5 y0 y1 y2 h0 h1 h2 hq0 hq1 hd hS z0 z1
  generalize txtL l0 = X0 at F1 F2 D0
  generalize txtL l1 = X1 at F2 D1
  go_enter Tryd.func3, Tryd.ntmps3
  go_wp2_with (first
    | (go_at_call 13; (with_reducible refine HA.out.mono ?_); rintro e w1 ⟨rfl, hb⟩; have HB := Lib.hid hb; clear hb)
    | (go_at_call 14; first
      | ((with_reducible refine (T0.out _ HB.out).mono ?_); (rintro e wa ⟨v, rfl, o, b⟩); (obtain ⟨Aa, ca, rfl⟩ := own_slice o)
         have YA := Lib.hid (Byt.own o HX0.out)
         have HBa := Lib.hid (HB.out.trans (b.mono HB.out.size))
         clear o b)
      | ((with_reducible refine (T1.out _ HBa.out).mono ?_); (rintro e wb ⟨v, rfl, o, b⟩); (obtain ⟨Ab, cb, rfl⟩ := own_slice o)
         have YA1 := Lib.hid (YA.out.below b)
         have YB := Lib.hid (Byt.own o HX1.out)
         have HBb := Lib.hid (HBa.out.trans (b.mono HBa.out.size))
         have HBb2 := Lib.hid (HBb.out.alloc HBb.out.size (Obj.cells #[Value.slice Aa l0.length ca, Value.slice Ab l1.length cb] 27))
         have KA := Lib.hid (Blk.new wb 27 #[Value.slice Aa l0.length ca, Value.slice Ab l1.length cb])
         clear o b YA)
      | ((with_reducible refine (T0.out _ HBb2.out).mono ?_); (rintro e wc ⟨v, rfl, o, b⟩); (obtain ⟨Ac, cc, rfl⟩ := own_slice o)
         have bb := ((Below.refl _ wb).alloc (Nat.le_refl _) (Obj.cells #[Value.slice Aa l0.length ca, Value.slice Ab l1.length cb] 27)).trans (b.mono (by simp))
         have YA2 := Lib.hid (YA1.out.below bb)
         have YB2 := Lib.hid (YB.out.below bb)
         have KA2 := Lib.hid (KA.out.below b (by simp))
         have YC := Lib.hid (Byt.own o HX0.out)
         have HBc := Lib.hid (HBb2.out.trans (b.mono HBb2.out.size))
         clear o b bb YA1 YB KA)
      | ((with_reducible refine (T2.out _ HBc.out).mono ?_); (rintro e wd ⟨v, rfl, o, b⟩); (obtain ⟨Ad, cd, rfl⟩ := own_slice o)
         have bb := b.trans (((Below.refl _ wd).alloc (Nat.le_refl _) (Obj.cells #[Value.slice Ac l0.length cc, Value.slice Ad l2.length cd] 27)).mono b.size)
         have KB := Lib.hid (Blk.new wd 27 #[Value.slice Ac l0.length cc, Value.slice Ad l2.length cd])
         have YD := Lib.hid ((Byt.own o HX2.out).below ((Below.refl _ wd).alloc (Nat.le_refl _) (Obj.cells #[Value.slice Ac l0.length cc, Value.slice Ad l2.length cd] 27)))
         have YA3 := Lib.hid (YA2.out.below bb)
         have YB3 := Lib.hid (YB2.out.below bb)
         have YC3 := Lib.hid (YC.out.below bb)
         have KA3 := Lib.hid ((KA2.out.below b KA2.out.lt).alloc (Obj.cells #[Value.slice Ac l0.length cc, Value.slice Ad l2.length cd] 27))
         have HBd := Lib.hid (HBc.out.trans (bb.mono HBc.out.size))
         have x0 := KA3.out.cell 0
         have x1 := KA3.out.cell 1
         clear o b bb YA2 YB2 YC KA2))
    | (go_at_call 15; first
      | ((with_reducible refine (R0.out _ HBd.out).mono ?_); rintro e w2 ⟨rfl, rfl⟩)
      | ((with_reducible refine (R1.out _ HBd.out).mono ?_); rintro e w2 ⟨rfl, rfl⟩)))
  have P1 : Hid (∀ W A B c d, Byt W A l0.length c l0 → Byt W B l1.length d l1 → Calls Tryd.prog 17 #[.agg #[.slice A l0.length c, .slice B l1.length d]] W fun e w' => e = .returned (.string S0) ∧ Below W.heap.size W w') := Lib.hid (fun W A B c d ha hb => by
    obtain ⟨z0, z1, z2⟩ := HL.out
    obtain ⟨n0', n1', n2'⟩ := HN.out
    have := SPrint_any A B l0.length c l1.length d l0 l1 (by omega) (by omega) W ha hb
    rwa [← HSt.out] at this)
  have PS : Hid (∀ W, Mx W → Calls Tryd.prog 16 #[.string S0] W (fun e w' => (∃ A c B d, e = .returned (.tuple #[.agg #[.slice A 0 c, .slice B 0 d], .int .i64 4])) ∧ Below W.heap.size W w')) := Lib.hid (fun W hM => by
    obtain ⟨m, h5, hm⟩ := hM
    have h1 := sgL_txt l0 l1
    rw [HQ.out, if_neg (by decide)] at h1
    rw [HSt.out]
    exact ParseSig_no h1 (sgT_len HL.out.1 HL.out.2.1 HN.out.1 HN.out.2.1) m W h5 hm)
  clear R0 R1 T0 T1 T2 HA x0 x1
  go_wp2_with (first
    | (go_at_call 17; (with_reducible refine (P1.out _ _ _ _ _ YA3.out YB3.out).mono ?_); rintro e we ⟨rfl, b⟩
       have HBe := Lib.hid (HBd.out.trans (b.mono HBd.out.size))
       have HMe := Lib.hid (HM.out.below HBe.out)
       have YA4 := Lib.hid (YA3.out.below b)
       have YB4 := Lib.hid (YB3.out.below b)
       have YC4 := Lib.hid (YC3.out.below b)
       have YD4 := Lib.hid (YD.out.below b)
       have KA4 := Lib.hid (KA3.out.below b KA3.out.lt)
       have KB4 := Lib.hid (KB.out.below b KB.out.lt)
       clear b YA3 YB3 YC3 YD KA3 KB)
    | (go_at_call 16; (with_reducible refine (PS.out _ HMe.out).mono ?_); (rintro e wf ⟨⟨Ax, cx, Bx, dx, rfl⟩, b⟩)
       have HBf := Lib.hid (HBe.out.trans (b.mono HBe.out.size))
       have YA5 := Lib.hid (YA4.out.below b)
       have YB5 := Lib.hid (YB4.out.below b)
       have YC5 := Lib.hid (YC4.out.below b)
       have YD5 := Lib.hid (YD4.out.below b)
       have KA5 := Lib.hid (KA4.out.below b KA4.out.lt)
       have KB5 := Lib.hid (KB4.out.below b KB4.out.lt)
       clear b YA4 YB4 YC4 YD4 KA4 KB4))
  obtain ⟨W6, hW6⟩ : ∃ W6, W6 = wf.alloc (Obj.cells #[Value.slice Ax 0 cx, Value.slice Bx 0 dx] 27) := ⟨_, rfl⟩
  rw [← hW6]
  have b6 : Below wf.heap.size wf W6 := by rw [hW6]; exact (Below.refl _ wf).alloc (Nat.le_refl _) _
  have kx : Blk W6 wf.heap.size 27 #[Value.slice Ax 0 cx, Value.slice Bx 0 dx] := by rw [hW6]; exact Blk.new wf 27 _
  have HB6 : Hid (Below w.heap.size w W6) := Lib.hid (HBf.out.trans (b6.mono HBf.out.size))
  have YA6 := Lib.hid (YA5.out.below b6)
  have YB6 := Lib.hid (YB5.out.below b6)
  have YC6 := Lib.hid (YC5.out.below b6)
  have YD6 := Lib.hid (YD5.out.below b6)
  have ka := KA5.out.below b6 KA5.out.lt
  have kb := KB5.out.below b6 KB5.out.lt
  have HX9 : Hid (∀ W, Below W6.heap.size W6 W → W.cell? ⟨wb.heap.size, 0, none⟩ = some (Value.slice Aa l0.length ca) ∧ W.cell? ⟨wb.heap.size, 1, none⟩ = some (Value.slice Ab l1.length cb) ∧ W.cell? ⟨wd.heap.size, 0, none⟩ = some (Value.slice Ac l0.length cc) ∧ W.cell? ⟨wd.heap.size, 1, none⟩ = some (Value.slice Ad l2.length cd)) := Lib.hid (fun W h =>
    ⟨(ka.below h ka.lt).cell 0, (ka.below h ka.lt).cell 1, (kb.below h kb.lt).cell 0, (kb.below h kb.lt).cell 1⟩)
  have HXx : Hid (∀ W, Below W6.heap.size W6 W → Blk W wf.heap.size 27 #[Value.slice Ax 0 cx, Value.slice Bx 0 dx]) := Lib.hid (fun W h => kx.below h kx.lt)
  obtain ⟨z0, z1, z2⟩ := HL.out
  obtain ⟨n0', n1', n2'⟩ := HN.out
  have hd := HD.out
  have SR1 : Hid (∀ W, Below W6.heap.size W6 W → Calls Tryd.prog 18 #[.agg #[Value.slice Aa l0.length ca, Value.slice Ab l1.length cb]] W fun e w' => e = .returned (.bool false) ∧ Below W.heap.size W w') := Lib.hid (fun W h => by
    have := SRight_ok Aa Ab l0.length l1.length ca cb l0 l1 (by omega) (by omega) W (YA6.out.below h) (YB6.out.below h)
    rwa [HQ.out] at this)
  have SP1 : Hid (∀ W, Below W6.heap.size W6 W → Calls Tryd.prog 17 #[.agg #[Value.slice Aa l0.length ca, Value.slice Ab l1.length cb]] W fun e w' => e = .returned (.string S0) ∧ Below W.heap.size W w') := Lib.hid (fun W h => P1.out W _ _ _ _ (YA6.out.below h) (YB6.out.below h))
  have SS1 : Hid (∀ W, Below W6.heap.size W6 W → Calls Tryd.prog 20 #[.agg #[Value.slice Aa l0.length ca, Value.slice Ab l1.length cb], .agg #[Value.slice Ac l0.length cc, Value.slice Ad l2.length cd]] W fun e w' => e = .returned (.bool d) ∧ Below W.heap.size W w') := Lib.hid (fun W h => by
    have := SigSame_ok Aa Ab Ac Ad l0.length l1.length l0.length l2.length ca cb cc cd l0 l1 l0 l2 (by omega) (by omega) (by omega) (by omega) W (YA6.out.below h) (YB6.out.below h) (YC6.out.below h) (YD6.out.below h)
    rwa [hd, show decide (l0 = l0) = true by simp, Bool.true_and] at this)
  have G1 : Hid (∀ W, Below W6.heap.size W6 W → Sem.run Tryd.prog (convert 22 9 (Value.slice A1 n1 c1)) W = .ok (.string (str l1)) W) := Lib.hid (fun W h => C1.out W (HB6.out.trans (h.mono HB6.out.size)))
  have G2 : Hid (∀ W, Below W6.heap.size W6 W → Sem.run Tryd.prog (convert 22 9 (Value.slice A2 n2 c2)) W = .ok (.string (str l2)) W) := Lib.hid (fun W h => C2.out W (HB6.out.trans (h.mono HB6.out.size)))
  have L0 : Hid (∀ W, Below W6.heap.size W6 W → Calls Tryd.prog 19 #[.slice A0 n0 c0] W fun e w' => e = .returned (.string X0) ∧ W = w') := Lib.hid (fun W h => D0.out W (HB6.out.trans (h.mono HB6.out.size)))
  have L1 : Hid (∀ W, Below W6.heap.size W6 W → Calls Tryd.prog 19 #[.slice A1 n1 c1] W fun e w' => e = .returned (.string X1) ∧ W = w') := Lib.hid (fun W h => D1.out W (HB6.out.trans (h.mono HB6.out.size)))
  have f1 := F1.out
  have f2 := F2.out
  have g0 := E0.out
  clear hW6 b6 kx ka kb z0 z1 z2 n0' n1' n2' hd HQ HD HSt YA6 YB6 YC6 YD6 YA5 YB5 YC5 YD5 KA5 KB5 C1 C2 D0 D1 E0 F1 F2 HN HL HX0 HX1 HX2 P1 PS HM HMe
  generalize str l1 = t1 at G1 g0
  generalize str l2 = t2 at G2 g0
  generalize wb.heap.size = bA at HX9
  generalize wd.heap.size = bB at HX9
  generalize wf.heap.size = bX at HXx
  have HD6 : Hid (Below W6.heap.size W6 W6.drew) := Lib.hid (bdD (Below.refl _ _))
  cases d
  ·
    refine wp_region_held_drew (S := (fun W => Below W6.heap.size W6 W)) (by kernel_rfl) HD6.out (fun hHeld => ?_)
    refine wpAnyH_take (i := 0) (oi := ?oi_105_0) (v := ?_) ?hi_105_0 (by kernel_rfl) ?hf_105_0 (by kernel_rfl) ?hQ_105_0 ?hy_105_0 (by assumption) ?_
    case hi_105_0 => simp only [List.getElem?_toArray, List.getElem?_cons_zero, List.getElem?_cons_succ]; rfl
    case hf_105_0 => kernel_rfl
    case hQ_105_0 => exact fun _ _ _ h => h
    case hy_105_0 =>
      refine Or.inl ⟨by rfl, ?_⟩
      intro W hSw
      have x0 := (HX9.out W hSw).1
      have x1 := (HX9.out W hSw).2.1
      go_simp
      try with_reducible rfl
    try simp only [Act.put, List.setIfInBounds_toArray, List.set_cons_zero, List.set_cons_succ]
    refine wpAnyH_take (i := 2) (oi := ?oi_106_0) (v := ?_) ?hi_106_0 (by kernel_rfl) ?hf_106_0 (by kernel_rfl) ?hQ_106_0 ?hy_106_0 (by assumption) ?_
    case hi_106_0 => simp only [List.getElem?_toArray, List.getElem?_cons_zero, List.getElem?_cons_succ]; rfl
    case hf_106_0 => kernel_rfl
    case hQ_106_0 => exact fun _ _ _ h => h
    case hy_106_0 =>
      refine Or.inl ⟨by rfl, ?_⟩
      intro W hSw
      go_simp
      try with_reducible rfl
    try simp only [Act.put, List.setIfInBounds_toArray, List.set_cons_zero, List.set_cons_succ]
    refine wpAnyH_ready (rs := [1]) (by kernel_rfl) (by simp) ?_
    refine AllReadyH.cons (o := ?oi_107_0) ?hi_107_0 (fun K hK => ?_) AllReadyH.nil
    case hi_107_0 => simp only [List.getElem?_toArray, List.getElem?_cons_zero, List.getElem?_cons_succ]; rfl
    go_simp
    (go_at_call 18
     with_reducible refine (SR1.out _ HD6.out).mono ?_
     rintro e wp ⟨rfl, hbn⟩
     have HBwp : Hid (Below W6.heap.size W6 wp) := Lib.hid (HD6.out.trans (hbn.mono HD6.out.size))
     clear hbn)
    refine hK.out _ _ HBwp.out (fun hHeld => ?_)
    clear hK K
    try simp only [Act.put, List.setIfInBounds_toArray, List.set_cons_zero, List.set_cons_succ]
    refine wpAnyH_take (i := 3) (oi := ?oi_108_0) (v := ?_) ?hi_108_0 (by kernel_rfl) ?hf_108_0 (by kernel_rfl) ?hQ_108_0 ?hy_108_0 (by assumption) ?_
    case hi_108_0 => simp only [List.getElem?_toArray, List.getElem?_cons_zero, List.getElem?_cons_succ]; rfl
    case hf_108_0 => kernel_rfl
    case hQ_108_0 => exact fun _ _ _ h => h
    case hy_108_0 =>
      refine Or.inl ⟨by rfl, ?_⟩
      intro W hSw
      go_simp
      try with_reducible rfl
    try simp only [Act.put, List.setIfInBounds_toArray, List.set_cons_zero, List.set_cons_succ]
    refine wpAnyH_take (i := 4) (oi := ?oi_109_0) (v := ?_) ?hi_109_0 (by kernel_rfl) ?hf_109_0 (by kernel_rfl) ?hQ_109_0 ?hy_109_0 (by assumption) ?_
    case hi_109_0 => simp only [List.getElem?_toArray, List.getElem?_cons_zero, List.getElem?_cons_succ]; rfl
    case hf_109_0 => kernel_rfl
    case hQ_109_0 => exact fun _ _ _ h => h
    case hy_109_0 =>
      refine Or.inl ⟨by rfl, ?_⟩
      intro W hSw
      go_simp
      try with_reducible rfl
    try simp only [Act.put, List.setIfInBounds_toArray, List.set_cons_zero, List.set_cons_succ]
    refine wpAnyH_take (i := 5) (oi := ?oi_110_0) (v := ?_) ?hi_110_0 (by kernel_rfl) ?hf_110_0 (by kernel_rfl) ?hQ_110_0 ?hy_110_0 (by assumption) ?_
    case hi_110_0 => simp only [List.getElem?_toArray, List.getElem?_cons_zero, List.getElem?_cons_succ]; rfl
    case hf_110_0 => kernel_rfl
    case hQ_110_0 => exact fun _ _ _ h => h
    case hy_110_0 =>
      refine Or.inl ⟨by rfl, ?_⟩
      intro W hSw
      have x0 := (HX9.out W hSw).1
      have x1 := (HX9.out W hSw).2.1
      go_simp
      try with_reducible rfl
    try simp only [Act.put, List.setIfInBounds_toArray, List.set_cons_zero, List.set_cons_succ]
    refine wpAnyH_take (i := 7) (oi := ?oi_111_0) (v := ?_) ?hi_111_0 (by kernel_rfl) ?hf_111_0 (by kernel_rfl) ?hQ_111_0 ?hy_111_0 (by assumption) ?_
    case hi_111_0 => simp only [List.getElem?_toArray, List.getElem?_cons_zero, List.getElem?_cons_succ]; rfl
    case hf_111_0 => kernel_rfl
    case hQ_111_0 => exact fun _ _ _ h => h
    case hy_111_0 =>
      refine Or.inl ⟨by rfl, ?_⟩
      intro W hSw
      go_simp
      try with_reducible rfl
    try simp only [Act.put, List.setIfInBounds_toArray, List.set_cons_zero, List.set_cons_succ]
    refine wpAnyH_take (i := 10) (oi := ?oi_112_0) (v := ?_) ?hi_112_0 (by kernel_rfl) ?hf_112_0 (by kernel_rfl) ?hQ_112_0 ?hy_112_0 (by assumption) ?_
    case hi_112_0 => simp only [List.getElem?_toArray, List.getElem?_cons_zero, List.getElem?_cons_succ]; rfl
    case hf_112_0 => kernel_rfl
    case hQ_112_0 => exact fun _ _ _ h => h
    case hy_112_0 =>
      refine Or.inl ⟨by rfl, ?_⟩
      intro W hSw
      go_simp
      try with_reducible rfl
    try simp only [Act.put, List.setIfInBounds_toArray, List.set_cons_zero, List.set_cons_succ]
    refine wpAnyH_ready (rs := [6]) (by kernel_rfl) (by simp) ?_
    refine AllReadyH.cons (o := ?oi_113_0) ?hi_113_0 (fun K hK => ?_) AllReadyH.nil
    case hi_113_0 => simp only [List.getElem?_toArray, List.getElem?_cons_zero, List.getElem?_cons_succ]; rfl
    go_simp
    (go_at_call 17
     with_reducible refine (SP1.out _ HBwp.out).mono ?_
     rintro e wq ⟨rfl, hbn⟩
     have HBwq : Hid (Below W6.heap.size W6 wq) := Lib.hid (HBwp.out.trans (hbn.mono HBwp.out.size))
     clear hbn)
    refine hK.out _ _ HBwq.out (fun hHeld => ?_)
    clear hK K
    try simp only [Act.put, List.setIfInBounds_toArray, List.set_cons_zero, List.set_cons_succ]
    refine wpAnyH_ready (rs := [8]) (by kernel_rfl) (by simp) ?_
    refine AllReadyH.cons (o := ?oi_114_0) ?hi_114_0 (fun K hK => ?_) AllReadyH.nil
    case hi_114_0 => simp only [List.getElem?_toArray, List.getElem?_cons_zero, List.getElem?_cons_succ]; rfl
    go_simp
    (go_at_call 19
     with_reducible refine (L0.out _ HBwq.out).mono ?_
     rintro e wz ⟨rfl, rfl⟩)
    refine hK.out _ _ HBwq.out (fun hHeld => ?_)
    clear hK K
    try simp only [Act.put, List.setIfInBounds_toArray, List.set_cons_zero, List.set_cons_succ]
    refine wpAnyH_take (i := 9) (oi := ?oi_115_0) (v := ?_) ?hi_115_0 (by kernel_rfl) ?hf_115_0 (by kernel_rfl) ?hQ_115_0 ?hy_115_0 (by assumption) ?_
    case hi_115_0 => simp only [List.getElem?_toArray, List.getElem?_cons_zero, List.getElem?_cons_succ]; rfl
    case hf_115_0 => kernel_rfl
    case hQ_115_0 => exact fun _ _ _ h => h
    case hy_115_0 =>
      refine Or.inl ⟨by rfl, ?_⟩
      intro W hSw
      go_simp
      try with_reducible rfl
    try simp only [Act.put, List.setIfInBounds_toArray, List.set_cons_zero, List.set_cons_succ]
    refine wpAnyH_ready (rs := [11]) (by kernel_rfl) (by simp) ?_
    refine AllReadyH.cons (o := ?oi_116_0) ?hi_116_0 (fun K hK => ?_) AllReadyH.nil
    case hi_116_0 => simp only [List.getElem?_toArray, List.getElem?_cons_zero, List.getElem?_cons_succ]; rfl
    go_simp
    (go_at_call 19
     with_reducible refine (L1.out _ HBwq.out).mono ?_
     rintro e wz ⟨rfl, rfl⟩)
    refine hK.out _ _ HBwq.out (fun hHeld => ?_)
    clear hK K
    try simp only [Act.put, List.setIfInBounds_toArray, List.set_cons_zero, List.set_cons_succ]
    refine wpAnyH_take (i := 12) (oi := ?oi_117_0) (v := ?_) ?hi_117_0 (by kernel_rfl) ?hf_117_0 (by kernel_rfl) ?hQ_117_0 ?hy_117_0 (by assumption) ?_
    case hi_117_0 => simp only [List.getElem?_toArray, List.getElem?_cons_zero, List.getElem?_cons_succ]; rfl
    case hf_117_0 => kernel_rfl
    case hQ_117_0 => exact fun _ _ _ h => h
    case hy_117_0 =>
      refine Or.inl ⟨by rfl, ?_⟩
      intro W hSw
      go_simp
      try with_reducible rfl
    try simp only [Act.put, List.setIfInBounds_toArray, List.set_cons_zero, List.set_cons_succ]
    refine wpAnyH_take (i := 13) (oi := ?oi_118_0) (v := ?_) ?hi_118_0 (by kernel_rfl) ?hf_118_0 (by kernel_rfl) ?hQ_118_0 ?hy_118_0 (by assumption) ?_
    case hi_118_0 => simp only [List.getElem?_toArray, List.getElem?_cons_zero, List.getElem?_cons_succ]; rfl
    case hf_118_0 => kernel_rfl
    case hQ_118_0 => exact fun _ _ _ h => h
    case hy_118_0 =>
      refine Or.inl ⟨by rfl, ?_⟩
      intro W hSw
      go_simp
      try with_reducible rfl
    try simp only [Act.put, List.setIfInBounds_toArray, List.set_cons_zero, List.set_cons_succ]
    refine wpAnyH_take (i := 14) (oi := ?oi_119_0) (v := ?_) ?hi_119_0 (by kernel_rfl) ?hf_119_0 (by kernel_rfl) ?hQ_119_0 ?hy_119_0 (by assumption) ?_
    case hi_119_0 => simp only [List.getElem?_toArray, List.getElem?_cons_zero, List.getElem?_cons_succ]; rfl
    case hf_119_0 => kernel_rfl
    case hQ_119_0 => exact fun _ _ _ h => h
    case hy_119_0 =>
      refine Or.inl ⟨by rfl, ?_⟩
      intro W hSw
      go_simp
      try with_reducible rfl
    try simp only [Act.put, List.setIfInBounds_toArray, List.set_cons_zero, List.set_cons_succ]
    refine wpAnyH_take (i := 15) (oi := ?oi_120_0) (v := ?_) ?hi_120_0 (by kernel_rfl) ?hf_120_0 (by kernel_rfl) ?hQ_120_0 ?hy_120_0 (by assumption) ?_
    case hi_120_0 => simp only [List.getElem?_toArray, List.getElem?_cons_zero, List.getElem?_cons_succ]; rfl
    case hf_120_0 => kernel_rfl
    case hQ_120_0 => exact fun _ _ _ h => h
    case hy_120_0 =>
      refine Or.inl ⟨by rfl, ?_⟩
      intro W hSw
      go_simp
      try with_reducible rfl
    try simp only [Act.put, List.setIfInBounds_toArray, List.set_cons_zero, List.set_cons_succ]
    refine wpAnyH_take (i := 16) (oi := ?oi_121_0) (v := ?_) ?hi_121_0 (by kernel_rfl) ?hf_121_0 (by kernel_rfl) ?hQ_121_0 ?hy_121_0 (by assumption) ?_
    case hi_121_0 => simp only [List.getElem?_toArray, List.getElem?_cons_zero, List.getElem?_cons_succ]; rfl
    case hf_121_0 => kernel_rfl
    case hQ_121_0 => exact fun _ _ _ h => h
    case hy_121_0 =>
      refine Or.inl ⟨by rfl, ?_⟩
      intro W hSw
      have x0 := (HX9.out W hSw).1
      have x1 := (HX9.out W hSw).2.1
      go_simp
      try with_reducible rfl
    try simp only [Act.put, List.setIfInBounds_toArray, List.set_cons_zero, List.set_cons_succ]
    refine wpAnyH_take (i := 17) (oi := ?oi_122_0) (v := ?_) ?hi_122_0 (by kernel_rfl) ?hf_122_0 (by kernel_rfl) ?hQ_122_0 ?hy_122_0 (by assumption) ?_
    case hi_122_0 => simp only [List.getElem?_toArray, List.getElem?_cons_zero, List.getElem?_cons_succ]; rfl
    case hf_122_0 => kernel_rfl
    case hQ_122_0 => exact fun _ _ _ h => h
    case hy_122_0 =>
      refine Or.inl ⟨by rfl, ?_⟩
      intro W hSw
      have x0 := (HX9.out W hSw).2.2.1
      have x1 := (HX9.out W hSw).2.2.2
      go_simp
      try with_reducible rfl
    try simp only [Act.put, List.setIfInBounds_toArray, List.set_cons_zero, List.set_cons_succ]
    refine wpAnyH_take (i := 19) (oi := ?oi_123_0) (v := ?_) ?hi_123_0 (by kernel_rfl) ?hf_123_0 (by kernel_rfl) ?hQ_123_0 ?hy_123_0 (by assumption) ?_
    case hi_123_0 => simp only [List.getElem?_toArray, List.getElem?_cons_zero, List.getElem?_cons_succ]; rfl
    case hf_123_0 => kernel_rfl
    case hQ_123_0 => exact fun _ _ _ h => h
    case hy_123_0 =>
      refine Or.inl ⟨by rfl, ?_⟩
      intro W hSw
      go_simp
      try with_reducible rfl
    try simp only [Act.put, List.setIfInBounds_toArray, List.set_cons_zero, List.set_cons_succ]
    refine wpAnyH_take (i := 20) (oi := ?oi_124_0) (v := ?_) ?hi_124_0 (by kernel_rfl) ?hf_124_0 (by kernel_rfl) ?hQ_124_0 ?hy_124_0 (by assumption) ?_
    case hi_124_0 => simp only [List.getElem?_toArray, List.getElem?_cons_zero, List.getElem?_cons_succ]; rfl
    case hf_124_0 => kernel_rfl
    case hQ_124_0 => exact fun _ _ _ h => h
    case hy_124_0 =>
      refine Or.inl ⟨by rfl, ?_⟩
      intro W hSw
      have xc := G1.out W hSw
      go_simp
      try with_reducible rfl
    try simp only [Act.put, List.setIfInBounds_toArray, List.set_cons_zero, List.set_cons_succ]
    refine wpAnyH_take (i := 21) (oi := ?oi_125_0) (v := ?_) ?hi_125_0 (by kernel_rfl) ?hf_125_0 (by kernel_rfl) ?hQ_125_0 ?hy_125_0 (by assumption) ?_
    case hi_125_0 => simp only [List.getElem?_toArray, List.getElem?_cons_zero, List.getElem?_cons_succ]; rfl
    case hf_125_0 => kernel_rfl
    case hQ_125_0 => exact fun _ _ _ h => h
    case hy_125_0 =>
      refine Or.inl ⟨by rfl, ?_⟩
      intro W hSw
      go_simp
      try with_reducible rfl
    try simp only [Act.put, List.setIfInBounds_toArray, List.set_cons_zero, List.set_cons_succ]
    refine wpAnyH_take (i := 22) (oi := ?oi_126_0) (v := ?_) ?hi_126_0 (by kernel_rfl) ?hf_126_0 (by kernel_rfl) ?hQ_126_0 ?hy_126_0 (by assumption) ?_
    case hi_126_0 => simp only [List.getElem?_toArray, List.getElem?_cons_zero, List.getElem?_cons_succ]; rfl
    case hf_126_0 => kernel_rfl
    case hQ_126_0 => exact fun _ _ _ h => h
    case hy_126_0 =>
      refine Or.inl ⟨by rfl, ?_⟩
      intro W hSw
      have xc := G2.out W hSw
      go_simp
      try with_reducible rfl
    try simp only [Act.put, List.setIfInBounds_toArray, List.set_cons_zero, List.set_cons_succ]
    refine wpAnyH_take (i := 23) (oi := ?oi_127_0) (v := ?_) ?hi_127_0 (by kernel_rfl) ?hf_127_0 (by kernel_rfl) ?hQ_127_0 ?hy_127_0 (by assumption) ?_
    case hi_127_0 => simp only [List.getElem?_toArray, List.getElem?_cons_zero, List.getElem?_cons_succ]; rfl
    case hf_127_0 => kernel_rfl
    case hQ_127_0 => exact fun _ _ _ h => h
    case hy_127_0 =>
      refine Or.inl ⟨by rfl, ?_⟩
      intro W hSw
      go_simp
      try with_reducible rfl
    try simp only [Act.put, List.setIfInBounds_toArray, List.set_cons_zero, List.set_cons_succ]
    refine wpAnyH_ready (rs := [18]) (by kernel_rfl) (by simp) ?_
    refine AllReadyH.cons (o := ?oi_128_0) ?hi_128_0 (fun K hK => ?_) AllReadyH.nil
    case hi_128_0 => simp only [List.getElem?_toArray, List.getElem?_cons_zero, List.getElem?_cons_succ]; rfl
    go_simp
    (go_at_call 20
     with_reducible refine (SS1.out _ HBwq.out).mono ?_
     rintro e wr ⟨rfl, hbn⟩
     have HBwr : Hid (Below W6.heap.size W6 wr) := Lib.hid (HBwq.out.trans (hbn.mono HBwq.out.size))
     clear hbn)
    refine hK.out _ _ HBwr.out (fun hHeld => ?_)
    clear hK K
    try simp only [Act.put, List.setIfInBounds_toArray, List.set_cons_zero, List.set_cons_succ]
    refine wpAnyH_take (i := 24) (oi := ?oi_129_0) (v := ?_) ?hi_129_0 (by kernel_rfl) ?hf_129_0 (by kernel_rfl) ?hQ_129_0 ?hy_129_0 (by assumption) ?_
    case hi_129_0 => simp only [List.getElem?_toArray, List.getElem?_cons_zero, List.getElem?_cons_succ]; rfl
    case hf_129_0 => kernel_rfl
    case hQ_129_0 => exact fun _ _ _ h => h
    case hy_129_0 =>
      refine Or.inl ⟨by rfl, ?_⟩
      intro W hSw
      go_simp
      try with_reducible rfl
    try simp only [Act.put, List.setIfInBounds_toArray, List.set_cons_zero, List.set_cons_succ]
    refine wpAnyH_take (i := 25) (oi := ?oi_130_0) (v := ?_) ?hi_130_0 (by kernel_rfl) ?hf_130_0 (by kernel_rfl) ?hQ_130_0 ?hy_130_0 (by assumption) ?_
    case hi_130_0 => simp only [List.getElem?_toArray, List.getElem?_cons_zero, List.getElem?_cons_succ]; rfl
    case hf_130_0 => kernel_rfl
    case hQ_130_0 => exact fun _ _ _ h => h
    case hy_130_0 =>
      refine Or.inl ⟨by rfl, ?_⟩
      intro W hSw
      go_simp
      try with_reducible rfl
    try simp only [Act.put, List.setIfInBounds_toArray, List.set_cons_zero, List.set_cons_succ]
    refine wpAnyH_done (by kernel_rfl) ?_ _
    clear hHeld
    have x2 := (HXx.out _ HBwr.out).cell 0
    have x3 := (HXx.out _ HBwr.out).cell 1
    go_wp2
    go_ret
    exact ⟨by simp, HB6.out.trans (HBwr.out.mono HB6.out.size)⟩
  ·
    refine wp_region_held_drew (S := (fun W => Below W6.heap.size W6 W)) (by kernel_rfl) HD6.out (fun hHeld => ?_)
    refine wpAnyH_take (i := 0) (oi := ?oi_131_1) (v := ?_) ?hi_131_1 (by kernel_rfl) ?hf_131_1 (by kernel_rfl) ?hQ_131_1 ?hy_131_1 (by assumption) ?_
    case hi_131_1 => simp only [List.getElem?_toArray, List.getElem?_cons_zero, List.getElem?_cons_succ]; rfl
    case hf_131_1 => kernel_rfl
    case hQ_131_1 => exact fun _ _ _ h => h
    case hy_131_1 =>
      refine Or.inl ⟨by rfl, ?_⟩
      intro W hSw
      have x0 := (HX9.out W hSw).1
      have x1 := (HX9.out W hSw).2.1
      go_simp
      try with_reducible rfl
    try simp only [Act.put, List.setIfInBounds_toArray, List.set_cons_zero, List.set_cons_succ]
    refine wpAnyH_take (i := 2) (oi := ?oi_132_1) (v := ?_) ?hi_132_1 (by kernel_rfl) ?hf_132_1 (by kernel_rfl) ?hQ_132_1 ?hy_132_1 (by assumption) ?_
    case hi_132_1 => simp only [List.getElem?_toArray, List.getElem?_cons_zero, List.getElem?_cons_succ]; rfl
    case hf_132_1 => kernel_rfl
    case hQ_132_1 => exact fun _ _ _ h => h
    case hy_132_1 =>
      refine Or.inl ⟨by rfl, ?_⟩
      intro W hSw
      go_simp
      try with_reducible rfl
    try simp only [Act.put, List.setIfInBounds_toArray, List.set_cons_zero, List.set_cons_succ]
    refine wpAnyH_ready (rs := [1]) (by kernel_rfl) (by simp) ?_
    refine AllReadyH.cons (o := ?oi_133_1) ?hi_133_1 (fun K hK => ?_) AllReadyH.nil
    case hi_133_1 => simp only [List.getElem?_toArray, List.getElem?_cons_zero, List.getElem?_cons_succ]; rfl
    go_simp
    (go_at_call 18
     with_reducible refine (SR1.out _ HD6.out).mono ?_
     rintro e wp ⟨rfl, hbn⟩
     have HBwp : Hid (Below W6.heap.size W6 wp) := Lib.hid (HD6.out.trans (hbn.mono HD6.out.size))
     clear hbn)
    refine hK.out _ _ HBwp.out (fun hHeld => ?_)
    clear hK K
    try simp only [Act.put, List.setIfInBounds_toArray, List.set_cons_zero, List.set_cons_succ]
    refine wpAnyH_take (i := 3) (oi := ?oi_134_1) (v := ?_) ?hi_134_1 (by kernel_rfl) ?hf_134_1 (by kernel_rfl) ?hQ_134_1 ?hy_134_1 (by assumption) ?_
    case hi_134_1 => simp only [List.getElem?_toArray, List.getElem?_cons_zero, List.getElem?_cons_succ]; rfl
    case hf_134_1 => kernel_rfl
    case hQ_134_1 => exact fun _ _ _ h => h
    case hy_134_1 =>
      refine Or.inl ⟨by rfl, ?_⟩
      intro W hSw
      go_simp
      try with_reducible rfl
    try simp only [Act.put, List.setIfInBounds_toArray, List.set_cons_zero, List.set_cons_succ]
    refine wpAnyH_take (i := 4) (oi := ?oi_135_1) (v := ?_) ?hi_135_1 (by kernel_rfl) ?hf_135_1 (by kernel_rfl) ?hQ_135_1 ?hy_135_1 (by assumption) ?_
    case hi_135_1 => simp only [List.getElem?_toArray, List.getElem?_cons_zero, List.getElem?_cons_succ]; rfl
    case hf_135_1 => kernel_rfl
    case hQ_135_1 => exact fun _ _ _ h => h
    case hy_135_1 =>
      refine Or.inl ⟨by rfl, ?_⟩
      intro W hSw
      go_simp
      try with_reducible rfl
    try simp only [Act.put, List.setIfInBounds_toArray, List.set_cons_zero, List.set_cons_succ]
    refine wpAnyH_take (i := 5) (oi := ?oi_136_1) (v := ?_) ?hi_136_1 (by kernel_rfl) ?hf_136_1 (by kernel_rfl) ?hQ_136_1 ?hy_136_1 (by assumption) ?_
    case hi_136_1 => simp only [List.getElem?_toArray, List.getElem?_cons_zero, List.getElem?_cons_succ]; rfl
    case hf_136_1 => kernel_rfl
    case hQ_136_1 => exact fun _ _ _ h => h
    case hy_136_1 =>
      refine Or.inl ⟨by rfl, ?_⟩
      intro W hSw
      have x0 := (HX9.out W hSw).1
      have x1 := (HX9.out W hSw).2.1
      go_simp
      try with_reducible rfl
    try simp only [Act.put, List.setIfInBounds_toArray, List.set_cons_zero, List.set_cons_succ]
    refine wpAnyH_take (i := 7) (oi := ?oi_137_1) (v := ?_) ?hi_137_1 (by kernel_rfl) ?hf_137_1 (by kernel_rfl) ?hQ_137_1 ?hy_137_1 (by assumption) ?_
    case hi_137_1 => simp only [List.getElem?_toArray, List.getElem?_cons_zero, List.getElem?_cons_succ]; rfl
    case hf_137_1 => kernel_rfl
    case hQ_137_1 => exact fun _ _ _ h => h
    case hy_137_1 =>
      refine Or.inl ⟨by rfl, ?_⟩
      intro W hSw
      go_simp
      try with_reducible rfl
    try simp only [Act.put, List.setIfInBounds_toArray, List.set_cons_zero, List.set_cons_succ]
    refine wpAnyH_take (i := 10) (oi := ?oi_138_1) (v := ?_) ?hi_138_1 (by kernel_rfl) ?hf_138_1 (by kernel_rfl) ?hQ_138_1 ?hy_138_1 (by assumption) ?_
    case hi_138_1 => simp only [List.getElem?_toArray, List.getElem?_cons_zero, List.getElem?_cons_succ]; rfl
    case hf_138_1 => kernel_rfl
    case hQ_138_1 => exact fun _ _ _ h => h
    case hy_138_1 =>
      refine Or.inl ⟨by rfl, ?_⟩
      intro W hSw
      go_simp
      try with_reducible rfl
    try simp only [Act.put, List.setIfInBounds_toArray, List.set_cons_zero, List.set_cons_succ]
    refine wpAnyH_ready (rs := [6]) (by kernel_rfl) (by simp) ?_
    refine AllReadyH.cons (o := ?oi_139_1) ?hi_139_1 (fun K hK => ?_) AllReadyH.nil
    case hi_139_1 => simp only [List.getElem?_toArray, List.getElem?_cons_zero, List.getElem?_cons_succ]; rfl
    go_simp
    (go_at_call 17
     with_reducible refine (SP1.out _ HBwp.out).mono ?_
     rintro e wq ⟨rfl, hbn⟩
     have HBwq : Hid (Below W6.heap.size W6 wq) := Lib.hid (HBwp.out.trans (hbn.mono HBwp.out.size))
     clear hbn)
    refine hK.out _ _ HBwq.out (fun hHeld => ?_)
    clear hK K
    try simp only [Act.put, List.setIfInBounds_toArray, List.set_cons_zero, List.set_cons_succ]
    refine wpAnyH_ready (rs := [8]) (by kernel_rfl) (by simp) ?_
    refine AllReadyH.cons (o := ?oi_140_1) ?hi_140_1 (fun K hK => ?_) AllReadyH.nil
    case hi_140_1 => simp only [List.getElem?_toArray, List.getElem?_cons_zero, List.getElem?_cons_succ]; rfl
    go_simp
    (go_at_call 19
     with_reducible refine (L0.out _ HBwq.out).mono ?_
     rintro e wz ⟨rfl, rfl⟩)
    refine hK.out _ _ HBwq.out (fun hHeld => ?_)
    clear hK K
    try simp only [Act.put, List.setIfInBounds_toArray, List.set_cons_zero, List.set_cons_succ]
    refine wpAnyH_take (i := 9) (oi := ?oi_141_1) (v := ?_) ?hi_141_1 (by kernel_rfl) ?hf_141_1 (by kernel_rfl) ?hQ_141_1 ?hy_141_1 (by assumption) ?_
    case hi_141_1 => simp only [List.getElem?_toArray, List.getElem?_cons_zero, List.getElem?_cons_succ]; rfl
    case hf_141_1 => kernel_rfl
    case hQ_141_1 => exact fun _ _ _ h => h
    case hy_141_1 =>
      refine Or.inl ⟨by rfl, ?_⟩
      intro W hSw
      go_simp
      try with_reducible rfl
    try simp only [Act.put, List.setIfInBounds_toArray, List.set_cons_zero, List.set_cons_succ]
    refine wpAnyH_ready (rs := [11]) (by kernel_rfl) (by simp) ?_
    refine AllReadyH.cons (o := ?oi_142_1) ?hi_142_1 (fun K hK => ?_) AllReadyH.nil
    case hi_142_1 => simp only [List.getElem?_toArray, List.getElem?_cons_zero, List.getElem?_cons_succ]; rfl
    go_simp
    (go_at_call 19
     with_reducible refine (L1.out _ HBwq.out).mono ?_
     rintro e wz ⟨rfl, rfl⟩)
    refine hK.out _ _ HBwq.out (fun hHeld => ?_)
    clear hK K
    try simp only [Act.put, List.setIfInBounds_toArray, List.set_cons_zero, List.set_cons_succ]
    refine wpAnyH_take (i := 12) (oi := ?oi_143_1) (v := ?_) ?hi_143_1 (by kernel_rfl) ?hf_143_1 (by kernel_rfl) ?hQ_143_1 ?hy_143_1 (by assumption) ?_
    case hi_143_1 => simp only [List.getElem?_toArray, List.getElem?_cons_zero, List.getElem?_cons_succ]; rfl
    case hf_143_1 => kernel_rfl
    case hQ_143_1 => exact fun _ _ _ h => h
    case hy_143_1 =>
      refine Or.inl ⟨by rfl, ?_⟩
      intro W hSw
      go_simp
      try with_reducible rfl
    try simp only [Act.put, List.setIfInBounds_toArray, List.set_cons_zero, List.set_cons_succ]
    refine wpAnyH_take (i := 13) (oi := ?oi_144_1) (v := ?_) ?hi_144_1 (by kernel_rfl) ?hf_144_1 (by kernel_rfl) ?hQ_144_1 ?hy_144_1 (by assumption) ?_
    case hi_144_1 => simp only [List.getElem?_toArray, List.getElem?_cons_zero, List.getElem?_cons_succ]; rfl
    case hf_144_1 => kernel_rfl
    case hQ_144_1 => exact fun _ _ _ h => h
    case hy_144_1 =>
      refine Or.inl ⟨by rfl, ?_⟩
      intro W hSw
      go_simp
      try with_reducible rfl
    try simp only [Act.put, List.setIfInBounds_toArray, List.set_cons_zero, List.set_cons_succ]
    refine wpAnyH_take (i := 14) (oi := ?oi_145_1) (v := ?_) ?hi_145_1 (by kernel_rfl) ?hf_145_1 (by kernel_rfl) ?hQ_145_1 ?hy_145_1 (by assumption) ?_
    case hi_145_1 => simp only [List.getElem?_toArray, List.getElem?_cons_zero, List.getElem?_cons_succ]; rfl
    case hf_145_1 => kernel_rfl
    case hQ_145_1 => exact fun _ _ _ h => h
    case hy_145_1 =>
      refine Or.inl ⟨by rfl, ?_⟩
      intro W hSw
      go_simp
      try with_reducible rfl
    try simp only [Act.put, List.setIfInBounds_toArray, List.set_cons_zero, List.set_cons_succ]
    refine wpAnyH_take (i := 15) (oi := ?oi_146_1) (v := ?_) ?hi_146_1 (by kernel_rfl) ?hf_146_1 (by kernel_rfl) ?hQ_146_1 ?hy_146_1 (by assumption) ?_
    case hi_146_1 => simp only [List.getElem?_toArray, List.getElem?_cons_zero, List.getElem?_cons_succ]; rfl
    case hf_146_1 => kernel_rfl
    case hQ_146_1 => exact fun _ _ _ h => h
    case hy_146_1 =>
      refine Or.inl ⟨by rfl, ?_⟩
      intro W hSw
      go_simp
      try with_reducible rfl
    try simp only [Act.put, List.setIfInBounds_toArray, List.set_cons_zero, List.set_cons_succ]
    refine wpAnyH_take (i := 16) (oi := ?oi_147_1) (v := ?_) ?hi_147_1 (by kernel_rfl) ?hf_147_1 (by kernel_rfl) ?hQ_147_1 ?hy_147_1 (by assumption) ?_
    case hi_147_1 => simp only [List.getElem?_toArray, List.getElem?_cons_zero, List.getElem?_cons_succ]; rfl
    case hf_147_1 => kernel_rfl
    case hQ_147_1 => exact fun _ _ _ h => h
    case hy_147_1 =>
      refine Or.inl ⟨by rfl, ?_⟩
      intro W hSw
      have x0 := (HX9.out W hSw).1
      have x1 := (HX9.out W hSw).2.1
      go_simp
      try with_reducible rfl
    try simp only [Act.put, List.setIfInBounds_toArray, List.set_cons_zero, List.set_cons_succ]
    refine wpAnyH_take (i := 17) (oi := ?oi_148_1) (v := ?_) ?hi_148_1 (by kernel_rfl) ?hf_148_1 (by kernel_rfl) ?hQ_148_1 ?hy_148_1 (by assumption) ?_
    case hi_148_1 => simp only [List.getElem?_toArray, List.getElem?_cons_zero, List.getElem?_cons_succ]; rfl
    case hf_148_1 => kernel_rfl
    case hQ_148_1 => exact fun _ _ _ h => h
    case hy_148_1 =>
      refine Or.inl ⟨by rfl, ?_⟩
      intro W hSw
      have x0 := (HX9.out W hSw).2.2.1
      have x1 := (HX9.out W hSw).2.2.2
      go_simp
      try with_reducible rfl
    try simp only [Act.put, List.setIfInBounds_toArray, List.set_cons_zero, List.set_cons_succ]
    refine wpAnyH_take (i := 19) (oi := ?oi_149_1) (v := ?_) ?hi_149_1 (by kernel_rfl) ?hf_149_1 (by kernel_rfl) ?hQ_149_1 ?hy_149_1 (by assumption) ?_
    case hi_149_1 => simp only [List.getElem?_toArray, List.getElem?_cons_zero, List.getElem?_cons_succ]; rfl
    case hf_149_1 => kernel_rfl
    case hQ_149_1 => exact fun _ _ _ h => h
    case hy_149_1 =>
      refine Or.inl ⟨by rfl, ?_⟩
      intro W hSw
      go_simp
      try with_reducible rfl
    try simp only [Act.put, List.setIfInBounds_toArray, List.set_cons_zero, List.set_cons_succ]
    refine wpAnyH_take (i := 20) (oi := ?oi_150_1) (v := ?_) ?hi_150_1 (by kernel_rfl) ?hf_150_1 (by kernel_rfl) ?hQ_150_1 ?hy_150_1 (by assumption) ?_
    case hi_150_1 => simp only [List.getElem?_toArray, List.getElem?_cons_zero, List.getElem?_cons_succ]; rfl
    case hf_150_1 => kernel_rfl
    case hQ_150_1 => exact fun _ _ _ h => h
    case hy_150_1 =>
      refine Or.inl ⟨by rfl, ?_⟩
      intro W hSw
      have xc := G1.out W hSw
      go_simp
      try with_reducible rfl
    try simp only [Act.put, List.setIfInBounds_toArray, List.set_cons_zero, List.set_cons_succ]
    refine wpAnyH_take (i := 21) (oi := ?oi_151_1) (v := ?_) ?hi_151_1 (by kernel_rfl) ?hf_151_1 (by kernel_rfl) ?hQ_151_1 ?hy_151_1 (by assumption) ?_
    case hi_151_1 => simp only [List.getElem?_toArray, List.getElem?_cons_zero, List.getElem?_cons_succ]; rfl
    case hf_151_1 => kernel_rfl
    case hQ_151_1 => exact fun _ _ _ h => h
    case hy_151_1 =>
      refine Or.inl ⟨by rfl, ?_⟩
      intro W hSw
      go_simp
      try with_reducible rfl
    try simp only [Act.put, List.setIfInBounds_toArray, List.set_cons_zero, List.set_cons_succ]
    refine wpAnyH_take (i := 22) (oi := ?oi_152_1) (v := ?_) ?hi_152_1 (by kernel_rfl) ?hf_152_1 (by kernel_rfl) ?hQ_152_1 ?hy_152_1 (by assumption) ?_
    case hi_152_1 => simp only [List.getElem?_toArray, List.getElem?_cons_zero, List.getElem?_cons_succ]; rfl
    case hf_152_1 => kernel_rfl
    case hQ_152_1 => exact fun _ _ _ h => h
    case hy_152_1 =>
      refine Or.inl ⟨by rfl, ?_⟩
      intro W hSw
      have xc := G2.out W hSw
      go_simp
      try with_reducible rfl
    try simp only [Act.put, List.setIfInBounds_toArray, List.set_cons_zero, List.set_cons_succ]
    refine wpAnyH_take (i := 23) (oi := ?oi_153_1) (v := ?_) ?hi_153_1 (by kernel_rfl) ?hf_153_1 (by kernel_rfl) ?hQ_153_1 ?hy_153_1 (by assumption) ?_
    case hi_153_1 => simp only [List.getElem?_toArray, List.getElem?_cons_zero, List.getElem?_cons_succ]; rfl
    case hf_153_1 => kernel_rfl
    case hQ_153_1 => exact fun _ _ _ h => h
    case hy_153_1 =>
      refine Or.inl ⟨by rfl, ?_⟩
      intro W hSw
      go_simp
      try with_reducible rfl
    try simp only [Act.put, List.setIfInBounds_toArray, List.set_cons_zero, List.set_cons_succ]
    refine wpAnyH_ready (rs := [18]) (by kernel_rfl) (by simp) ?_
    refine AllReadyH.cons (o := ?oi_154_1) ?hi_154_1 (fun K hK => ?_) AllReadyH.nil
    case hi_154_1 => simp only [List.getElem?_toArray, List.getElem?_cons_zero, List.getElem?_cons_succ]; rfl
    go_simp
    (go_at_call 20
     with_reducible refine (SS1.out _ HBwq.out).mono ?_
     rintro e wr ⟨rfl, hbn⟩
     have HBwr : Hid (Below W6.heap.size W6 wr) := Lib.hid (HBwq.out.trans (hbn.mono HBwq.out.size))
     clear hbn)
    refine hK.out _ _ HBwr.out (fun hHeld => ?_)
    clear hK K
    try simp only [Act.put, List.setIfInBounds_toArray, List.set_cons_zero, List.set_cons_succ]
    refine wpAnyH_take (i := 24) (oi := ?oi_155_1) (v := ?_) ?hi_155_1 (by kernel_rfl) ?hf_155_1 (by kernel_rfl) ?hQ_155_1 ?hy_155_1 (by assumption) ?_
    case hi_155_1 => simp only [List.getElem?_toArray, List.getElem?_cons_zero, List.getElem?_cons_succ]; rfl
    case hf_155_1 => kernel_rfl
    case hQ_155_1 => exact fun _ _ _ h => h
    case hy_155_1 =>
      refine Or.inl ⟨by rfl, ?_⟩
      intro W hSw
      go_simp
      try with_reducible rfl
    try simp only [Act.put, List.setIfInBounds_toArray, List.set_cons_zero, List.set_cons_succ]
    refine wpAnyH_take (i := 25) (oi := ?oi_156_1) (v := ?_) ?hi_156_1 (by kernel_rfl) ?hf_156_1 (by kernel_rfl) ?hQ_156_1 ?hy_156_1 (by assumption) ?_
    case hi_156_1 => simp only [List.getElem?_toArray, List.getElem?_cons_zero, List.getElem?_cons_succ]; rfl
    case hf_156_1 => kernel_rfl
    case hQ_156_1 => exact fun _ _ _ h => h
    case hy_156_1 =>
      refine Or.inl ⟨by rfl, ?_⟩
      intro W hSw
      go_simp
      try with_reducible rfl
    try simp only [Act.put, List.setIfInBounds_toArray, List.set_cons_zero, List.set_cons_succ]
    refine wpAnyH_done (by kernel_rfl) ?_ _
    clear hHeld
    have x2 := (HXx.out _ HBwr.out).cell 0
    have x3 := (HXx.out _ HBwr.out).cell 1
    go_wp2
    go_ret
    exact ⟨by simp, HB6.out.trans (HBwr.out.mono HB6.out.size)⟩
theorem typesPrint_walk (A0 : Option Addr) (n0 c0 : Nat) (l0 : List Nat) (A1 : Option Addr) (n1 c1 : Nat) (l1 : List Nat) (A2 : Option Addr) (n2 c2 : Nat) (l2 : List Nat) (w : World)
    (y0 : Byt w A0 n0 c0 l0) (y1 : Byt w A1 n1 c1 l1) (y2 : Byt w A2 n2 c2 l2) (hM : Mx w) :
    Calls Tryd.prog 3 #[.slice A0 n0 c0, .slice A1 n1 c1, .slice A2 n2 c2] w fun e w' => e = .returned (.bool true) ∧ Below w.heap.size w w' := by
  by_cases h : 30 < n0 ∨ 30 < n1 ∨ 30 < n2
  · exact print_long A0 A1 A2 n0 n1 n2 c0 c1 c2 w hM h
  · by_cases q0 : okL l0 = true
    · by_cases q1 : okL l1 = true
      · exact print_yes A0 A1 A2 n0 n1 n2 c0 c1 c2 l0 l1 l2 _ _ w hM (by omega) (by omega) (by omega) y0 y1 y2 q0 q1 rfl rfl
      · exact print_no2 A0 A1 A2 n0 n1 n2 c0 c1 c2 l0 l1 l2 _ _ w hM (by omega) (by omega) (by omega) y0 y1 y2 q0 (Bool.eq_false_iff.2 q1) rfl rfl
    · exact print_no1 A0 A1 A2 n0 n1 n2 c0 c1 c2 l0 l1 l2 _ _ w hM (by omega) (by omega) (by omega) y0 y1 y2 (Bool.eq_false_iff.2 q0) rfl rfl

set_option maxRecDepth 100000 in
theorem typesPrint_lifted (os : Os) (started : os.Started) (H : Type) (enc : TypeId × Value → H) :
    ReturnsInHanded {} Tryd.checked os 3 .any (fun w args => (Rows.typesPrintSpec.pre enc Tryd.prog Tryd.f3 [] false w args ∧ laidMetH Tryd.prog laidY w) ∧ sizedMet enc Tryd.prog Tryd.f3 (OpenSpec.ofChange Rows.typesPrintSpec) false w args) (Rows.typesPrintSpec.post enc Tryd.prog Tryd.f3 false true false false) := by
  refine returnsInHanded_of_change_and_sh (C := Tryd.checked) (X := fun w _ => laidMetH Tryd.prog laidY w) (fun _ _ _ hh h => h.of_heap hh) Tryd.own started (by kernel_rfl) Tryd.func3
    (ChangeSpec.witness_shaped (enc := enc) (C := Tryd.checked) (os := os) (X := fun w _ => laidMetH Tryd.prog laidY w) false (World.laidAll Tryd.prog os laidY) #[.slice none 0 0, .slice none 0 0, .slice none 0 0] 8 (World.laidAll_os _ _ _) (World.shaped_of_ZipB (by kernel_rfl) (by kernel_rfl)) (by kernel_rfl) (by kernel_rfl) (by kernel_rfl) (laidY_met os _)) ?_
  intro W base args ds gs before hval0 hW _ _ hL hsh _
  have hval : ∀ (j : Nat) t v, Tryd.f3.params[j]? = some t → args[j]? = some v → Value.okWide Tryd.prog W .any base t v := hval0
  have hW' := hW
  obtain ⟨p, q, hA0, hV, rfl, hfz, hnd⟩ := hW
  have hA : DataW.TrodAll enc Tryd.prog W 0 (fun _ => true) true Tryd.f3.params.toList args.toList ds p := hA0
  rw [Tryd.params3] at hA hval
  obtain ⟨v0, vs0, d0, ds0, p0, q0, hargs, rfl, rfl, h0, r0⟩ := trodAll_cons hA
  obtain ⟨v1, vs1, d1, ds1, p1, q1, rfl, rfl, rfl, h1, r1⟩ := trodAll_cons r0
  obtain ⟨v2, vs2, d2, ds2, p2, q2, rfl, rfl, rfl, h2, r2⟩ := trodAll_cons r1
  obtain ⟨rfl, rfl, rfl⟩ := trodAll_nil r2
  obtain rfl : args = #[v0, v1, v2] := by cases args; simp_all
  obtain ⟨rfl, rfl⟩ := trodVars_none hV
  obtain ⟨a0, len0, cap0, rfl⟩ := okWide_slice Tryd.underlying22 (hval 0 22 v0 rfl rfl)
  have k0 := h0
  have lt0 : ∀ x ∈ p0, x.block < W.heap.size := by obtain ⟨m, hm⟩ := k0; exact DataW.trod_lt m _ _ _ hm
  obtain ⟨z0, w0⟩ : ∃ zs, IsRow .u8 W a0 len0 cap0 zs := by
    obtain ⟨fuel, hf⟩ := h0
    rcases open_ints Tryd.underlying22 Tryd.underlying5 (by kernel_rfl) hf with ⟨hcs, _⟩ | ⟨x, l, c, zs, hcs, _, hl, hm, hz, _, hcell, hwz⟩
    · simp [Value.cells] at hcs
      obtain ⟨rfl, rfl, rfl⟩ := hcs
      exact ⟨[], .inl ⟨rfl, rfl, rfl, rfl⟩⟩
    · simp [Value.cells] at hcs
      obtain ⟨rfl, rfl, rfl⟩ := hcs
      exact ⟨zs, .inr ⟨_, rfl, hl, hm, by simpa using hz, hcell, hwz⟩⟩
  obtain ⟨b0, w0⟩ := byt_of_row w0
  obtain ⟨a1, len1, cap1, rfl⟩ := okWide_slice Tryd.underlying22 (hval 1 22 v1 rfl rfl)
  have k1 := h1
  have lt1 : ∀ x ∈ p1, x.block < W.heap.size := by obtain ⟨m, hm⟩ := k1; exact DataW.trod_lt m _ _ _ hm
  obtain ⟨z1, w1⟩ : ∃ zs, IsRow .u8 W a1 len1 cap1 zs := by
    obtain ⟨fuel, hf⟩ := h1
    rcases open_ints Tryd.underlying22 Tryd.underlying5 (by kernel_rfl) hf with ⟨hcs, _⟩ | ⟨x, l, c, zs, hcs, _, hl, hm, hz, _, hcell, hwz⟩
    · simp [Value.cells] at hcs
      obtain ⟨rfl, rfl, rfl⟩ := hcs
      exact ⟨[], .inl ⟨rfl, rfl, rfl, rfl⟩⟩
    · simp [Value.cells] at hcs
      obtain ⟨rfl, rfl, rfl⟩ := hcs
      exact ⟨zs, .inr ⟨_, rfl, hl, hm, by simpa using hz, hcell, hwz⟩⟩
  obtain ⟨b1, w1⟩ := byt_of_row w1
  obtain ⟨a2, len2, cap2, rfl⟩ := okWide_slice Tryd.underlying22 (hval 2 22 v2 rfl rfl)
  have k2 := h2
  have lt2 : ∀ x ∈ p2, x.block < W.heap.size := by obtain ⟨m, hm⟩ := k2; exact DataW.trod_lt m _ _ _ hm
  obtain ⟨z2, w2⟩ : ∃ zs, IsRow .u8 W a2 len2 cap2 zs := by
    obtain ⟨fuel, hf⟩ := h2
    rcases open_ints Tryd.underlying22 Tryd.underlying5 (by kernel_rfl) hf with ⟨hcs, _⟩ | ⟨x, l, c, zs, hcs, _, hl, hm, hz, _, hcell, hwz⟩
    · simp [Value.cells] at hcs
      obtain ⟨rfl, rfl, rfl⟩ := hcs
      exact ⟨[], .inl ⟨rfl, rfl, rfl, rfl⟩⟩
    · simp [Value.cells] at hcs
      obtain ⟨rfl, rfl, rfl⟩ := hcs
      exact ⟨zs, .inr ⟨_, rfl, hl, hm, by simpa using hz, hcell, hwz⟩⟩
  obtain ⟨b2, w2⟩ := byt_of_row w2
  clear hA0 hval0
  refine (typesPrint_walk a0 len0 cap0 b0 a1 len1 cap1 b1 a2 len2 cap2 b2 W w0 w1 w2 (mx_of hsh)).mono fun e W' ⟨he, hg⟩ => ?_
  subst he
  exact ⟨_, rfl, _, _, _, [], _, [], hW', trodAll_mk1 (shut_bool Tryd.underlying4 _), (trodAll_cons_mk (Below.trod Tryd.laidOut (by kernel_rfl) (of_decide_eq_true (by kernel_rfl)) k0 hg lt0) (trodAll_cons_mk (Below.trod Tryd.laidOut (by kernel_rfl) (of_decide_eq_true (by kernel_rfl)) k1 hg lt1) (trodAll_cons_mk (Below.trod Tryd.laidOut (by kernel_rfl) (of_decide_eq_true (by kernel_rfl)) k2 hg lt2) trodAll_mk0))), rfl, hg.frame _, fun h => by cases h⟩

theorem typesPrint_over : Rows.typesPrintRow.holds Tryd.pinned (OpenSpec.ofChange Rows.typesPrintSpec) :=
  OpenClaim.holds_of_wide 3 Tryd.f3 rfl rfl rfl rfl rfl rfl rfl ⟨rfl, rfl, rfl, rfl, rfl⟩ rfl rfl rfl rfl rfl (by kernel_rfl) Tryd.func3 (by kernel_rfl)
    (of_decide_eq_true (by kernel_rfl)) (by unfold Func.isWrapper; first | (rw [if_pos (by decide +kernel)]; kernel_rfl) | (rw [if_neg (by decide +kernel)]; exact ⟨rfl, rfl⟩))
    (fun os started H enc _ => typesPrint_lifted os started H enc)

theorem typesPrint_proved : Rows.TypesPrintCardSaid :=
  Claim7.holds_tied_plain_at .later [] [.data, .pinned] true (true, "4363a9f1bcaa13f3b457e37f1a1b0955e8ef81f2314578975e89844add95430d") true
    typesPrint_over (fun _ h => by cases h) (by kernel_rfl) (fun _ h => by cases h) typesPrint_row_tie rfl ⟨rfl, rfl⟩ (by kernel_rfl) rfl
    (fun f fn hf hfn => by
      obtain rfl : f = 3 := Option.some.inj ((show Tryd.prog.funcNamed "grommet/grommetlaw09.TypesPrint" = some 3 by kernel_rfl).symm.trans hf) |>.symm
      obtain rfl : fn = Tryd.f3 := (Option.some.inj (Tryd.func3.symm.trans hfn)).symm
      exact ⟨by kernel_rfl, fun j t ht => by
        rw [Tryd.params3] at ht
        have hm : t ∈ [22, 22, 22] := by simpa using Array.mem_of_getElem? ht
        have hall : ([22, 22, 22].all fun u => !Tryd.prog.wantsStandIn u) = true := by kernel_rfl
        exact (show Tryd.prog.wantsStandIn t = false by simpa using List.all_eq_true.1 hall t hm)⟩)
    (by kernel_rfl)
#print axioms typesPrint_proved
end Go.Proofs.YtalpkdnnclghaaaDoor
