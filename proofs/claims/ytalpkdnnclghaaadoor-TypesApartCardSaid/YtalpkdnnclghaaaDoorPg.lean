/-
  Called with any four rows of bytes, grommetlaw09.TypesApart returns true, the tables unicode/utf8.acceptRanges and unicode/utf8.first lying as the program's text lays them; no other condition.
-/
import Derived.Test.YtalpkdnnclghaaaDoorNo
import Derived.Test.YtalpkdnnclghaaaDoorCards
import Derived.Deep.RegionHeld3
import Derived.WalkKit
import Derived.ProofKit
import Derived.OpenShut
import Derived.ShutString
import Derived.ChangeOld
import Derived.Below
import Derived.ChangeMaps5
namespace Go.Proofs.YtalpkdnnclghaaaDoor
open Go.ChangeShapes Go.WideShapes Go.ChangeAt Go.RowKit
open Go.ChangeMaps (open_string shut_string)
set_option linter.unusedVariables false

set_option maxHeartbeats 4000000 in
set_option maxRecDepth 100000 in
theorem apart_long (A0 A1 A2 A3 : Option Addr) (n0 n1 n2 n3 c0 c1 c2 c3 : Nat) (w : World) (hM : Mx w) (h : 30 < n0 ∨ 30 < n1 ∨ 30 < n2 ∨ 30 < n3) :
    Calls Tryd.prog 7 #[.slice A0 n0 c0, .slice A1 n1 c1, .slice A2 n2 c2, .slice A3 n3 c3] w fun e w' => e = .returned (.bool true) ∧ Below w.heap.size w w' := by
  obtain ⟨m, h5, hm⟩ := hM
  have HA := Lib.hid (awake9_any m w h5 hm)
  clear hm h5
  by_cases k0 : 30 < n0
  · have k0' : (30 : Int) < (n0 : Int) := by omega
    clear h k0
    go_enter Tryd.func7, Tryd.ntmps7
    go_wp2_with (go_at_call 13; (with_reducible refine HA.out.mono ?_); rintro e w1 ⟨rfl, hb⟩; have HB := Lib.hid hb; clear hb)
    go_ret
    exact ⟨rfl, HB.out⟩
  · by_cases k1 : 30 < n1
    · have k0' : ¬ (30 : Int) < (n0 : Int) := by omega
      have k1' : (30 : Int) < (n1 : Int) := by omega
      clear h k0 k1
      go_enter Tryd.func7, Tryd.ntmps7
      go_wp2_with (go_at_call 13; (with_reducible refine HA.out.mono ?_); rintro e w1 ⟨rfl, hb⟩; have HB := Lib.hid hb; clear hb)
      go_ret
      exact ⟨rfl, HB.out⟩
    · by_cases k2 : 30 < n2
      · have k0' : ¬ (30 : Int) < (n0 : Int) := by omega
        have k1' : ¬ (30 : Int) < (n1 : Int) := by omega
        have k2' : (30 : Int) < (n2 : Int) := by omega
        clear h k0 k1 k2
        go_enter Tryd.func7, Tryd.ntmps7
        go_wp2_with (go_at_call 13; (with_reducible refine HA.out.mono ?_); rintro e w1 ⟨rfl, hb⟩; have HB := Lib.hid hb; clear hb)
        go_ret
        exact ⟨rfl, HB.out⟩
      · have k3 : 30 < n3 := by omega
        have k0' : ¬ (30 : Int) < (n0 : Int) := by omega
        have k1' : ¬ (30 : Int) < (n1 : Int) := by omega
        have k2' : ¬ (30 : Int) < (n2 : Int) := by omega
        have k3' : (30 : Int) < (n3 : Int) := by omega
        clear h k0 k1 k2 k3
        go_enter Tryd.func7, Tryd.ntmps7
        go_wp2_with (go_at_call 13; (with_reducible refine HA.out.mono ?_); rintro e w1 ⟨rfl, hb⟩; have HB := Lib.hid hb; clear hb)
        go_ret
        exact ⟨rfl, HB.out⟩
set_option maxHeartbeats 4000000 in
set_option maxRecDepth 100000 in
theorem apart_wrong (A0 A1 A2 A3 : Option Addr) (n0 n1 n2 n3 c0 c1 c2 c3 : Nat) (l0 l1 l2 l3 : List Nat) (w : World) (hM : Mx w) (h0 : n0 ≤ 30) (h1 : n1 ≤ 30) (h2 : n2 ≤ 30) (h3 : n3 ≤ 30)
    (y0 : Byt w A0 n0 c0 l0) (y1 : Byt w A1 n1 c1 l1) (y2 : Byt w A2 n2 c2 l2) (y3 : Byt w A3 n3 c3 l3) (h : (okL l0 && okL l1 && okL l2 && okL l3) = false) :
    Calls Tryd.prog 7 #[.slice A0 n0 c0, .slice A1 n1 c1, .slice A2 n2 c2, .slice A3 n3 c3] w fun e w' => e = .returned (.bool true) ∧ Below w.heap.size w w' := by
  obtain ⟨m, h5, hm⟩ := hM
  have HA := Lib.hid (awake9_any m w h5 hm)
  have R0 := Lib.hid (fun W (b : Below w.heap.size w W) => lawRight_ok A0 n0 c0 l0 (by omega) W (y0.below b))
  have R1 := Lib.hid (fun W (b : Below w.heap.size w W) => lawRight_ok A1 n1 c1 l1 (by omega) W (y1.below b))
  have R2 := Lib.hid (fun W (b : Below w.heap.size w W) => lawRight_ok A2 n2 c2 l2 (by omega) W (y2.below b))
  have R3 := Lib.hid (fun W (b : Below w.heap.size w W) => lawRight_ok A3 n3 c3 l3 (by omega) W (y3.below b))
  have k0 : ¬ (30 : Int) < (n0 : Int) := by omega
  have k1 : ¬ (30 : Int) < (n1 : Int) := by omega
  have k2 : ¬ (30 : Int) < (n2 : Int) := by omega
  have k3 : ¬ (30 : Int) < (n3 : Int) := by omega
  clear hm h5 y0 y1 y2 y3 h0 h1 h2 h3
  generalize okL l0 = q0 at R0 h
  generalize okL l1 = q1 at R1 h
  generalize okL l2 = q2 at R2 h
  generalize okL l3 = q3 at R3 h
  cases q0
  case false =>
    clear h R1 R2 R3
    go_enter Tryd.func7, Tryd.ntmps7
    go_wp2_with (first | (go_at_call 13; (with_reducible refine HA.out.mono ?_); rintro e w1 ⟨rfl, hb⟩; have HB := Lib.hid hb; clear hb) | (go_at_call 15; (with_reducible refine (R0.out _ HB.out).mono ?_); rintro e w2 ⟨rfl, rfl⟩))
    go_ret
    exact ⟨rfl, HB.out⟩
  cases q1
  case false =>
    clear h R2 R3
    go_enter Tryd.func7, Tryd.ntmps7
    go_wp2_with (first | (go_at_call 13; (with_reducible refine HA.out.mono ?_); rintro e w1 ⟨rfl, hb⟩; have HB := Lib.hid hb; clear hb) | (go_at_call 15; first | ((with_reducible refine (R0.out _ HB.out).mono ?_); rintro e w2 ⟨rfl, rfl⟩) | ((with_reducible refine (R1.out _ HB.out).mono ?_); rintro e w2 ⟨rfl, rfl⟩)))
    go_ret
    exact ⟨rfl, HB.out⟩
  cases q2
  case false =>
    clear h R3
    go_enter Tryd.func7, Tryd.ntmps7
    go_wp2_with (first | (go_at_call 13; (with_reducible refine HA.out.mono ?_); rintro e w1 ⟨rfl, hb⟩; have HB := Lib.hid hb; clear hb) | (go_at_call 15; first | ((with_reducible refine (R0.out _ HB.out).mono ?_); rintro e w2 ⟨rfl, rfl⟩) | ((with_reducible refine (R1.out _ HB.out).mono ?_); rintro e w2 ⟨rfl, rfl⟩) | ((with_reducible refine (R2.out _ HB.out).mono ?_); rintro e w2 ⟨rfl, rfl⟩)))
    go_ret
    exact ⟨rfl, HB.out⟩
  cases q3
  case true => simp at h
  case false =>
    clear h
    go_enter Tryd.func7, Tryd.ntmps7
    go_wp2_with (first | (go_at_call 13; (with_reducible refine HA.out.mono ?_); rintro e w1 ⟨rfl, hb⟩; have HB := Lib.hid hb; clear hb) | (go_at_call 15; first | ((with_reducible refine (R0.out _ HB.out).mono ?_); rintro e w2 ⟨rfl, rfl⟩) | ((with_reducible refine (R1.out _ HB.out).mono ?_); rintro e w2 ⟨rfl, rfl⟩) | ((with_reducible refine (R2.out _ HB.out).mono ?_); rintro e w2 ⟨rfl, rfl⟩) | ((with_reducible refine (R3.out _ HB.out).mono ?_); rintro e w2 ⟨rfl, rfl⟩)))
    go_ret
    exact ⟨rfl, HB.out⟩
set_option maxHeartbeats 8000000 in
set_option maxRecDepth 100000 in
theorem apart_right (A0 A1 A2 A3 : Option Addr) (n0 n1 n2 n3 c0 c1 c2 c3 : Nat) (l0 l1 l2 l3 : List Nat) (s1 s2 : ByteArray) (d0 d1 : Bool) (w : World) (hM : Mx w) (h0 : n0 ≤ 30) (h1 : n1 ≤ 30) (h2 : n2 ≤ 30) (h3 : n3 ≤ 30)
    (y0 : Byt w A0 n0 c0 l0) (y1 : Byt w A1 n1 c1 l1) (y2 : Byt w A2 n2 c2 l2) (y3 : Byt w A3 n3 c3 l3) (hq0 : okL l0 = true) (hq1 : okL l1 = true) (hq2 : okL l2 = true) (hq3 : okL l3 = true)
    (e1 : (⟨(sgT l0 l1).toArray⟩ : ByteArray) = s1) (e2 : (⟨(sgT l2 l3).toArray⟩ : ByteArray) = s2) (hd0 : decide (l0 = l2) = d0) (hd1 : decide (l1 = l3) = d1) (hs : (s1.toList == s2.toList) = (d0 && d1)) :
    Calls Tryd.prog 7 #[.slice A0 n0 c0, .slice A1 n1 c1, .slice A2 n2 c2, .slice A3 n3 c3] w fun e w' => e = .returned (.bool true) ∧ Below w.heap.size w w' := by
  obtain ⟨m, h5, hm⟩ := hM
  have HA := Lib.hid (awake9_any m w h5 hm)
  have R0 := Lib.hid (fun W (b : Below w.heap.size w W) => hq0 ▸ lawRight_ok A0 n0 c0 l0 (by omega) W (y0.below b))
  have R1 := Lib.hid (fun W (b : Below w.heap.size w W) => hq1 ▸ lawRight_ok A1 n1 c1 l1 (by omega) W (y1.below b))
  have R2 := Lib.hid (fun W (b : Below w.heap.size w W) => hq2 ▸ lawRight_ok A2 n2 c2 l2 (by omega) W (y2.below b))
  have R3 := Lib.hid (fun W (b : Below w.heap.size w W) => hq3 ▸ lawRight_ok A3 n3 c3 l3 (by omega) W (y3.below b))
  have T0 := Lib.hid (fun W (b : Below w.heap.size w W) => To_ok A0 n0 c0 l0 (by omega) W (y0.below b))
  have T1 := Lib.hid (fun W (b : Below w.heap.size w W) => To_ok A1 n1 c1 l1 (by omega) W (y1.below b))
  have T2 := Lib.hid (fun W (b : Below w.heap.size w W) => To_ok A2 n2 c2 l2 (by omega) W (y2.below b))
  have T3 := Lib.hid (fun W (b : Below w.heap.size w W) => To_ok A3 n3 c3 l3 (by omega) W (y3.below b))
  have C0 := Lib.hid (fun W (b : Below w.heap.size w W) => conv_byt (y0.below b))
  have C1 := Lib.hid (fun W (b : Below w.heap.size w W) => conv_byt (y1.below b))
  have C2 := Lib.hid (fun W (b : Below w.heap.size w W) => conv_byt (y2.below b))
  have C3 := Lib.hid (fun W (b : Below w.heap.size w W) => conv_byt (y3.below b))
  have k0 : ¬ (30 : Int) < (n0 : Int) := by omega
  have k1 : ¬ (30 : Int) < (n1 : Int) := by omega
  have k2 : ¬ (30 : Int) < (n2 : Int) := by omega
  have k3 : ¬ (30 : Int) < (n3 : Int) := by omega
  have E0 := Lib.hid (hd0 ▸ str_eq l0 l2 y0.2.1 y2.2.1)
  have E1 := Lib.hid (hd1 ▸ str_eq l1 l3 y1.2.1 y3.2.1)
  have HX0 := Lib.hid (isT_lt hq0)
  have HX1 := Lib.hid (isT_lt hq1)
  have HX2 := Lib.hid (isT_lt hq2)
  have HX3 := Lib.hid (isT_lt hq3)
  have HL := Lib.hid (And.intro y0.1 (And.intro y1.1 (And.intro y2.1 y3.1)))
  have HS := Lib.hid hs
  have HN := Lib.hid (And.intro h0 (And.intro h1 (And.intro h2 h3)))
  have HE := Lib.hid (And.intro e1 e2)
  have HD := Lib.hid (And.intro hd0 hd1)
  have HQ := Lib.hid (And.intro (And.intro hq0 hq1) (And.intro hq2 hq3))
  clear hm h5 y0 y1 y2 y3 h0 h1 h2 h3 hq0 hq1 hq2 hq3 e1 e2 hd0 hd1 hs
  go_enter Tryd.func7, Tryd.ntmps7
  go_wp2_with (first
    | (go_at_call 13; (with_reducible refine HA.out.mono ?_); rintro e w1 ⟨rfl, hb⟩; have HB := Lib.hid hb; clear hb)
    | (go_at_call 15; first
      | ((with_reducible refine (R0.out _ HB.out).mono ?_); rintro e w2 ⟨rfl, rfl⟩)
      | ((with_reducible refine (R1.out _ HB.out).mono ?_); rintro e w2 ⟨rfl, rfl⟩)
      | ((with_reducible refine (R2.out _ HB.out).mono ?_); rintro e w2 ⟨rfl, rfl⟩)
      | ((with_reducible refine (R3.out _ HB.out).mono ?_); rintro e w2 ⟨rfl, rfl⟩))
    | (go_at_call 14; first
      | ((with_reducible refine (T0.out _ HB.out).mono ?_); (rintro e wa ⟨v, rfl, o, b⟩); (obtain ⟨Aa, ca, rfl⟩ := own_slice o)
         have YA := Lib.hid (Byt.own o HX0.out)
         have HBa := Lib.hid (HB.out.trans (b.mono HB.out.size))
         clear o b)
      | ((with_reducible refine (T1.out _ HBa.out).mono ?_); (rintro e wb ⟨v, rfl, o, b⟩); (obtain ⟨Ab, cb, rfl⟩ := own_slice o)
         have YA1 := Lib.hid (YA.out.below b)
         have YB := Lib.hid (Byt.own o HX1.out)
         have HBb := Lib.hid (HBa.out.trans (b.mono HBa.out.size))
         clear o b YA)
      | ((with_reducible refine (T2.out _ HBb.out).mono ?_); (rintro e wc ⟨v, rfl, o, b⟩); (obtain ⟨Ac, cc, rfl⟩ := own_slice o)
         have YA2 := Lib.hid (YA1.out.below b)
         have YB2 := Lib.hid (YB.out.below b)
         have YC := Lib.hid (Byt.own o HX2.out)
         have HBc := Lib.hid (HBb.out.trans (b.mono HBb.out.size))
         clear o b YA1 YB)
      | ((with_reducible refine (T3.out _ HBc.out).mono ?_); (rintro e wd ⟨v, rfl, o, b⟩); (obtain ⟨Ad, cd, rfl⟩ := own_slice o)
         have YA3 := Lib.hid (YA2.out.below b)
         have YB3 := Lib.hid (YB2.out.below b)
         have YC3 := Lib.hid (YC.out.below b)
         have YD := Lib.hid (Byt.own o HX3.out)
         have HBd := Lib.hid (HBc.out.trans (b.mono HBc.out.size))
         clear o b YA2 YB2 YC)))
  clear R0 R1 R2 R3 T0 T1 T2 T3 HA
  obtain ⟨W5, hW5⟩ : ∃ W5, W5 = (wd.alloc (Obj.cells #[Value.slice Aa l0.length ca, Value.slice Ab l1.length cb] 27)).alloc (Obj.cells #[Value.slice Ac l2.length cc, Value.slice Ad l3.length cd] 27) := ⟨_, rfl⟩
  rw [← hW5]
  have b5 : Below wd.heap.size wd W5 := by rw [hW5]; exact ((Below.refl _ wd).alloc (Nat.le_refl _) _).alloc (by simp) _
  have hz : W5.heap.size = wd.heap.size + 2 := by rw [hW5]; simp
  have k9 : Blk W5 wd.heap.size 27 #[Value.slice Aa l0.length ca, Value.slice Ab l1.length cb] := by rw [hW5]; exact (Blk.new wd 27 _).alloc _
  have k10 : Blk W5 (wd.heap.size + 1) 27 #[Value.slice Ac l2.length cc, Value.slice Ad l3.length cd] := by
    have h := Blk.new (wd.alloc (Obj.cells #[Value.slice Aa l0.length ca, Value.slice Ab l1.length cb] 27)) 27 #[Value.slice Ac l2.length cc, Value.slice Ad l3.length cd]
    rw [World.size_alloc, ← hW5] at h; exact h
  have HB5 : Hid (Below w.heap.size w W5) := Lib.hid (HBd.out.trans (b5.mono HBd.out.size))
  have YA5 := Lib.hid (YA3.out.below b5)
  have YB5 := Lib.hid (YB3.out.below b5)
  have YC5 := Lib.hid (YC3.out.below b5)
  have YD5 := Lib.hid (YD.out.below b5)
  have HX9 : Hid (∀ W, Below W5.heap.size W5 W → W.cell? ⟨wd.heap.size, 0, none⟩ = some (Value.slice Aa l0.length ca) ∧ W.cell? ⟨wd.heap.size, 1, none⟩ = some (Value.slice Ab l1.length cb) ∧ W.cell? ⟨wd.heap.size + 1, 0, none⟩ = some (Value.slice Ac l2.length cc) ∧ W.cell? ⟨wd.heap.size + 1, 1, none⟩ = some (Value.slice Ad l3.length cd)) := Lib.hid (fun W h =>
    ⟨(k9.below h (by omega)).cell 0, (k9.below h (by omega)).cell 1, (k10.below h (by omega)).cell 0, (k10.below h (by omega)).cell 1⟩)
  obtain ⟨z0, z1, z2, z3⟩ := HL.out
  obtain ⟨n0', n1', n2', n3'⟩ := HN.out
  obtain ⟨⟨hq0, hq1⟩, hq2, hq3⟩ := HQ.out
  obtain ⟨e1, e2⟩ := HE.out
  obtain ⟨hd0, hd1⟩ := HD.out
  have SR1 : Hid (∀ W, Below W5.heap.size W5 W → Calls Tryd.prog 18 #[.agg #[Value.slice Aa l0.length ca, Value.slice Ab l1.length cb]] W fun e w' => e = .returned (.bool true) ∧ Below W.heap.size W w') := Lib.hid (fun W h => by
    have := SRight_ok Aa Ab l0.length l1.length ca cb l0 l1 (by omega) (by omega) W (YA5.out.below h) (YB5.out.below h)
    rwa [hq0, hq1] at this)
  have SR2 : Hid (∀ W, Below W5.heap.size W5 W → Calls Tryd.prog 18 #[.agg #[Value.slice Ac l2.length cc, Value.slice Ad l3.length cd]] W fun e w' => e = .returned (.bool true) ∧ Below W.heap.size W w') := Lib.hid (fun W h => by
    have := SRight_ok Ac Ad l2.length l3.length cc cd l2 l3 (by omega) (by omega) W (YC5.out.below h) (YD5.out.below h)
    rwa [hq2, hq3] at this)
  have SP1 : Hid (∀ W, Below W5.heap.size W5 W → Calls Tryd.prog 17 #[.agg #[Value.slice Aa l0.length ca, Value.slice Ab l1.length cb]] W fun e w' => e = .returned (.string s1) ∧ Below W.heap.size W w') := Lib.hid (fun W h => by
    have := SPrint_any Aa Ab l0.length ca l1.length cb l0 l1 (by omega) (by omega) W (YA5.out.below h) (YB5.out.below h)
    rwa [e1] at this)
  have SP2 : Hid (∀ W, Below W5.heap.size W5 W → Calls Tryd.prog 17 #[.agg #[Value.slice Ac l2.length cc, Value.slice Ad l3.length cd]] W fun e w' => e = .returned (.string s2) ∧ Below W.heap.size W w') := Lib.hid (fun W h => by
    have := SPrint_any Ac Ad l2.length cc l3.length cd l2 l3 (by omega) (by omega) W (YC5.out.below h) (YD5.out.below h)
    rwa [e2] at this)
  have SS1 : Hid (∀ W, Below W5.heap.size W5 W → Calls Tryd.prog 20 #[.agg #[Value.slice Aa l0.length ca, Value.slice Ab l1.length cb], .agg #[Value.slice Ac l2.length cc, Value.slice Ad l3.length cd]] W fun e w' => e = .returned (.bool (d0 && d1)) ∧ Below W.heap.size W w') := Lib.hid (fun W h => by
    have := SigSame_ok Aa Ab Ac Ad l0.length l1.length l2.length l3.length ca cb cc cd l0 l1 l2 l3 (by omega) (by omega) (by omega) (by omega) W (YA5.out.below h) (YB5.out.below h) (YC5.out.below h) (YD5.out.below h)
    rwa [hd0, hd1] at this)
  have SS2 : Hid (∀ W, Below W5.heap.size W5 W → Calls Tryd.prog 20 #[.agg #[Value.slice Ac l2.length cc, Value.slice Ad l3.length cd], .agg #[Value.slice Aa l0.length ca, Value.slice Ab l1.length cb]] W fun e w' => e = .returned (.bool (d0 && d1)) ∧ Below W.heap.size W w') := Lib.hid (fun W h => by
    have := SigSame_ok Ac Ad Aa Ab l2.length l3.length l0.length l1.length cc cd ca cb l2 l3 l0 l1 (by omega) (by omega) (by omega) (by omega) W (YC5.out.below h) (YD5.out.below h) (YA5.out.below h) (YB5.out.below h)
    rwa [show decide (l2 = l0) = d0 by rw [← hd0]; exact decide_eq_decide.2 eq_comm, show decide (l3 = l1) = d1 by rw [← hd1]; exact decide_eq_decide.2 eq_comm] at this)
  have f0 := C0.out W5 HB5.out
  have f1 := C1.out W5 HB5.out
  have f2 := C2.out W5 HB5.out
  have f3 := C3.out W5 HB5.out
  have g0 := E0.out
  have g1 := E1.out
  clear hW5 b5 hz k9 k10 z0 z1 z2 z3 n0' n1' n2' n3' hq0 hq1 hq2 hq3 e1 e2 hd0 hd1 HQ HE HD YA5 YB5 YC5 YD5 YA3 YB3 YC3 YD C0 C1 C2 C3 E0 E1 HN HL HX0 HX1 HX2 HX3
  generalize str l0 = t0 at f0 g0
  generalize str l1 = t1 at f1 g1
  generalize str l2 = t2 at f2 g0
  generalize str l3 = t3 at f3 g1
  generalize wd.heap.size = b9 at HX9
  have hs := HS.out
  have HBw : Hid (W5.heap.size ≤ W5.heap.size) := Lib.hid (Nat.le_refl _)
  cases d0 <;> cases d1
  all_goals
    simp only [Bool.and_true, Bool.and_false, Bool.false_and] at SS1 SS2 hs
    rw [f0]
    go_wp2_with fail
  ·
    have HD5 : Hid (Below W5.heap.size W5 W5.drew) := Lib.hid (bdD (Below.refl _ _))
    refine wp_region_held_drew (S := (fun W => Below W5.heap.size W5 W)) (by kernel_rfl) HD5.out (fun hHeld => ?_)
    refine wpAnyH_take (i := 0) (oi := ?oi_1_0) (v := ?_) ?hi_1_0 (by kernel_rfl) ?hf_1_0 (by kernel_rfl) ?hQ_1_0 ?hy_1_0 (by assumption) ?_
    case hi_1_0 => simp only [List.getElem?_toArray, List.getElem?_cons_zero, List.getElem?_cons_succ]; rfl
    case hf_1_0 => kernel_rfl
    case hQ_1_0 => exact fun _ _ _ h => h
    case hy_1_0 =>
      refine Or.inl ⟨by rfl, ?_⟩
      intro W hSw
      have x0 := (HX9.out W hSw).1
      have x1 := (HX9.out W hSw).2.1
      go_simp
      try with_reducible rfl
    try simp only [Act.put, List.setIfInBounds_toArray, List.set_cons_zero, List.set_cons_succ]
    refine wpAnyH_ready (rs := [1]) (by kernel_rfl) (by simp) ?_
    refine AllReadyH.cons (o := ?oi_2_0) ?hi_2_0 (fun K hK => ?_) AllReadyH.nil
    case hi_2_0 => simp only [List.getElem?_toArray, List.getElem?_cons_zero, List.getElem?_cons_succ]; rfl
    go_simp
    (go_at_call 18
     with_reducible refine (SR1.out _ HD5.out).mono ?_
     rintro e wp ⟨rfl, hbn⟩
     have HBwp : Hid (Below W5.heap.size W5 wp) := Lib.hid (HD5.out.trans (hbn.mono HD5.out.size))
     clear hbn)
    refine hK.out _ _ HBwp.out (fun hHeld => ?_)
    clear hK K
    try simp only [Act.put, List.setIfInBounds_toArray, List.set_cons_zero, List.set_cons_succ]
    refine wpAnyH_take (i := 2) (oi := ?oi_3_0) (v := ?_) ?hi_3_0 (by kernel_rfl) ?hf_3_0 (by kernel_rfl) ?hQ_3_0 ?hy_3_0 (by assumption) ?_
    case hi_3_0 => simp only [List.getElem?_toArray, List.getElem?_cons_zero, List.getElem?_cons_succ]; rfl
    case hf_3_0 => kernel_rfl
    case hQ_3_0 => exact fun _ _ _ h => h
    case hy_3_0 =>
      refine Or.inl ⟨by rfl, ?_⟩
      intro W hSw
      go_simp
      try with_reducible rfl
    try simp only [Act.put, List.setIfInBounds_toArray, List.set_cons_zero, List.set_cons_succ]
    refine wpAnyH_take (i := 3) (oi := ?oi_4_0) (v := ?_) ?hi_4_0 (by kernel_rfl) ?hf_4_0 (by kernel_rfl) ?hQ_4_0 ?hy_4_0 (by assumption) ?_
    case hi_4_0 => simp only [List.getElem?_toArray, List.getElem?_cons_zero, List.getElem?_cons_succ]; rfl
    case hf_4_0 => kernel_rfl
    case hQ_4_0 => exact fun _ _ _ h => h
    case hy_4_0 =>
      refine Or.inl ⟨by rfl, ?_⟩
      intro W hSw
      have x0 := (HX9.out W hSw).2.2.1
      have x1 := (HX9.out W hSw).2.2.2
      go_simp
      try with_reducible rfl
    try simp only [Act.put, List.setIfInBounds_toArray, List.set_cons_zero, List.set_cons_succ]
    refine wpAnyH_ready (rs := [4]) (by kernel_rfl) (by simp) ?_
    refine AllReadyH.cons (o := ?oi_5_0) ?hi_5_0 (fun K hK => ?_) AllReadyH.nil
    case hi_5_0 => simp only [List.getElem?_toArray, List.getElem?_cons_zero, List.getElem?_cons_succ]; rfl
    go_simp
    (go_at_call 18
     with_reducible refine (SR2.out _ HBwp.out).mono ?_
     rintro e wq ⟨rfl, hbn⟩
     have HBwq : Hid (Below W5.heap.size W5 wq) := Lib.hid (HBwp.out.trans (hbn.mono HBwp.out.size))
     clear hbn)
    refine hK.out _ _ HBwq.out (fun hHeld => ?_)
    clear hK K
    try simp only [Act.put, List.setIfInBounds_toArray, List.set_cons_zero, List.set_cons_succ]
    refine wpAnyH_take (i := 5) (oi := ?oi_6_0) (v := ?_) ?hi_6_0 (by kernel_rfl) ?hf_6_0 (by kernel_rfl) ?hQ_6_0 ?hy_6_0 (by assumption) ?_
    case hi_6_0 => simp only [List.getElem?_toArray, List.getElem?_cons_zero, List.getElem?_cons_succ]; rfl
    case hf_6_0 => kernel_rfl
    case hQ_6_0 => exact fun _ _ _ h => h
    case hy_6_0 =>
      refine Or.inl ⟨by rfl, ?_⟩
      intro W hSw
      go_simp
      try with_reducible rfl
    try simp only [Act.put, List.setIfInBounds_toArray, List.set_cons_zero, List.set_cons_succ]
    refine wpAnyH_take (i := 6) (oi := ?oi_7_0) (v := ?_) ?hi_7_0 (by kernel_rfl) ?hf_7_0 (by kernel_rfl) ?hQ_7_0 ?hy_7_0 (by assumption) ?_
    case hi_7_0 => simp only [List.getElem?_toArray, List.getElem?_cons_zero, List.getElem?_cons_succ]; rfl
    case hf_7_0 => kernel_rfl
    case hQ_7_0 => exact fun _ _ _ h => h
    case hy_7_0 =>
      refine Or.inl ⟨by rfl, ?_⟩
      intro W hSw
      go_simp
      try with_reducible rfl
    try simp only [Act.put, List.setIfInBounds_toArray, List.set_cons_zero, List.set_cons_succ]
    refine wpAnyH_take (i := 7) (oi := ?oi_8_0) (v := ?_) ?hi_8_0 (by kernel_rfl) ?hf_8_0 (by kernel_rfl) ?hQ_8_0 ?hy_8_0 (by assumption) ?_
    case hi_8_0 => simp only [List.getElem?_toArray, List.getElem?_cons_zero, List.getElem?_cons_succ]; rfl
    case hf_8_0 => kernel_rfl
    case hQ_8_0 => exact fun _ _ _ h => h
    case hy_8_0 =>
      refine Or.inl ⟨by rfl, ?_⟩
      intro W hSw
      have x0 := (HX9.out W hSw).1
      have x1 := (HX9.out W hSw).2.1
      go_simp
      try with_reducible rfl
    try simp only [Act.put, List.setIfInBounds_toArray, List.set_cons_zero, List.set_cons_succ]
    refine wpAnyH_take (i := 9) (oi := ?oi_9_0) (v := ?_) ?hi_9_0 (by kernel_rfl) ?hf_9_0 (by kernel_rfl) ?hQ_9_0 ?hy_9_0 (by assumption) ?_
    case hi_9_0 => simp only [List.getElem?_toArray, List.getElem?_cons_zero, List.getElem?_cons_succ]; rfl
    case hf_9_0 => kernel_rfl
    case hQ_9_0 => exact fun _ _ _ h => h
    case hy_9_0 =>
      refine Or.inl ⟨by rfl, ?_⟩
      intro W hSw
      have x0 := (HX9.out W hSw).2.2.1
      have x1 := (HX9.out W hSw).2.2.2
      go_simp
      try with_reducible rfl
    try simp only [Act.put, List.setIfInBounds_toArray, List.set_cons_zero, List.set_cons_succ]
    refine wpAnyH_take (i := 12) (oi := ?oi_10_0) (v := ?_) ?hi_10_0 (by kernel_rfl) ?hf_10_0 (by kernel_rfl) ?hQ_10_0 ?hy_10_0 (by assumption) ?_
    case hi_10_0 => simp only [List.getElem?_toArray, List.getElem?_cons_zero, List.getElem?_cons_succ]; rfl
    case hf_10_0 => kernel_rfl
    case hQ_10_0 => exact fun _ _ _ h => h
    case hy_10_0 =>
      refine Or.inl ⟨by rfl, ?_⟩
      intro W hSw
      go_simp
      try with_reducible rfl
    try simp only [Act.put, List.setIfInBounds_toArray, List.set_cons_zero, List.set_cons_succ]
    refine wpAnyH_ready (rs := [8]) (by kernel_rfl) (by simp) ?_
    refine AllReadyH.cons (o := ?oi_11_0) ?hi_11_0 (fun K hK => ?_) AllReadyH.nil
    case hi_11_0 => simp only [List.getElem?_toArray, List.getElem?_cons_zero, List.getElem?_cons_succ]; rfl
    go_simp
    (go_at_call 17
     with_reducible refine (SP1.out _ HBwq.out).mono ?_
     rintro e wr ⟨rfl, hbn⟩
     have HBwr : Hid (Below W5.heap.size W5 wr) := Lib.hid (HBwq.out.trans (hbn.mono HBwq.out.size))
     clear hbn)
    refine hK.out _ _ HBwr.out (fun hHeld => ?_)
    clear hK K
    try simp only [Act.put, List.setIfInBounds_toArray, List.set_cons_zero, List.set_cons_succ]
    refine wpAnyH_ready (rs := [10]) (by kernel_rfl) (by simp) ?_
    refine AllReadyH.cons (o := ?oi_12_0) ?hi_12_0 (fun K hK => ?_) AllReadyH.nil
    case hi_12_0 => simp only [List.getElem?_toArray, List.getElem?_cons_zero, List.getElem?_cons_succ]; rfl
    go_simp
    (go_at_call 17
     with_reducible refine (SP2.out _ HBwr.out).mono ?_
     rintro e ws ⟨rfl, hbn⟩
     have HBws : Hid (Below W5.heap.size W5 ws) := Lib.hid (HBwr.out.trans (hbn.mono HBwr.out.size))
     clear hbn)
    refine hK.out _ _ HBws.out (fun hHeld => ?_)
    clear hK K
    try simp only [Act.put, List.setIfInBounds_toArray, List.set_cons_zero, List.set_cons_succ]
    refine wpAnyH_take (i := 11) (oi := ?oi_13_0) (v := ?_) ?hi_13_0 (by kernel_rfl) ?hf_13_0 (by kernel_rfl) ?hQ_13_0 ?hy_13_0 (by assumption) ?_
    case hi_13_0 => simp only [List.getElem?_toArray, List.getElem?_cons_zero, List.getElem?_cons_succ]; rfl
    case hf_13_0 => kernel_rfl
    case hQ_13_0 => exact fun _ _ _ h => h
    case hy_13_0 =>
      refine Or.inl ⟨by rfl, ?_⟩
      intro W hSw
      go_simp
      try with_reducible rfl
    try simp only [Act.put, List.setIfInBounds_toArray, List.set_cons_zero, List.set_cons_succ]
    refine wpAnyH_take (i := 13) (oi := ?oi_14_0) (v := ?_) ?hi_14_0 (by kernel_rfl) ?hf_14_0 (by kernel_rfl) ?hQ_14_0 ?hy_14_0 (by assumption) ?_
    case hi_14_0 => simp only [List.getElem?_toArray, List.getElem?_cons_zero, List.getElem?_cons_succ]; rfl
    case hf_14_0 => kernel_rfl
    case hQ_14_0 => exact fun _ _ _ h => h
    case hy_14_0 =>
      refine Or.inl ⟨by rfl, ?_⟩
      intro W hSw
      go_simp
      try with_reducible rfl
    try simp only [Act.put, List.setIfInBounds_toArray, List.set_cons_zero, List.set_cons_succ]
    refine wpAnyH_take (i := 14) (oi := ?oi_15_0) (v := ?_) ?hi_15_0 (by kernel_rfl) ?hf_15_0 (by kernel_rfl) ?hQ_15_0 ?hy_15_0 (by assumption) ?_
    case hi_15_0 => simp only [List.getElem?_toArray, List.getElem?_cons_zero, List.getElem?_cons_succ]; rfl
    case hf_15_0 => kernel_rfl
    case hQ_15_0 => exact fun _ _ _ h => h
    case hy_15_0 =>
      refine Or.inl ⟨by rfl, ?_⟩
      intro W hSw
      go_simp
      try with_reducible rfl
    try simp only [Act.put, List.setIfInBounds_toArray, List.set_cons_zero, List.set_cons_succ]
    refine wpAnyH_take (i := 15) (oi := ?oi_16_0) (v := ?_) ?hi_16_0 (by kernel_rfl) ?hf_16_0 (by kernel_rfl) ?hQ_16_0 ?hy_16_0 (by assumption) ?_
    case hi_16_0 => simp only [List.getElem?_toArray, List.getElem?_cons_zero, List.getElem?_cons_succ]; rfl
    case hf_16_0 => kernel_rfl
    case hQ_16_0 => exact fun _ _ _ h => h
    case hy_16_0 =>
      refine Or.inl ⟨by rfl, ?_⟩
      intro W hSw
      go_simp
      try with_reducible rfl
    try simp only [Act.put, List.setIfInBounds_toArray, List.set_cons_zero, List.set_cons_succ]
    refine wpAnyH_take (i := 16) (oi := ?oi_17_0) (v := ?_) ?hi_17_0 (by kernel_rfl) ?hf_17_0 (by kernel_rfl) ?hQ_17_0 ?hy_17_0 (by assumption) ?_
    case hi_17_0 => simp only [List.getElem?_toArray, List.getElem?_cons_zero, List.getElem?_cons_succ]; rfl
    case hf_17_0 => kernel_rfl
    case hQ_17_0 => exact fun _ _ _ h => h
    case hy_17_0 =>
      refine Or.inl ⟨by rfl, ?_⟩
      intro W hSw
      have x0 := (HX9.out W hSw).1
      have x1 := (HX9.out W hSw).2.1
      go_simp
      try with_reducible rfl
    try simp only [Act.put, List.setIfInBounds_toArray, List.set_cons_zero, List.set_cons_succ]
    refine wpAnyH_take (i := 17) (oi := ?oi_18_0) (v := ?_) ?hi_18_0 (by kernel_rfl) ?hf_18_0 (by kernel_rfl) ?hQ_18_0 ?hy_18_0 (by assumption) ?_
    case hi_18_0 => simp only [List.getElem?_toArray, List.getElem?_cons_zero, List.getElem?_cons_succ]; rfl
    case hf_18_0 => kernel_rfl
    case hQ_18_0 => exact fun _ _ _ h => h
    case hy_18_0 =>
      refine Or.inl ⟨by rfl, ?_⟩
      intro W hSw
      have x0 := (HX9.out W hSw).2.2.1
      have x1 := (HX9.out W hSw).2.2.2
      go_simp
      try with_reducible rfl
    try simp only [Act.put, List.setIfInBounds_toArray, List.set_cons_zero, List.set_cons_succ]
    refine wpAnyH_take (i := 19) (oi := ?oi_19_0) (v := ?_) ?hi_19_0 (by kernel_rfl) ?hf_19_0 (by kernel_rfl) ?hQ_19_0 ?hy_19_0 (by assumption) ?_
    case hi_19_0 => simp only [List.getElem?_toArray, List.getElem?_cons_zero, List.getElem?_cons_succ]; rfl
    case hf_19_0 => kernel_rfl
    case hQ_19_0 => exact fun _ _ _ h => h
    case hy_19_0 =>
      refine Or.inl ⟨by rfl, ?_⟩
      intro W hSw
      go_simp
      try with_reducible rfl
    try simp only [Act.put, List.setIfInBounds_toArray, List.set_cons_zero, List.set_cons_succ]
    refine wpAnyH_ready (rs := [18]) (by kernel_rfl) (by simp) ?_
    refine AllReadyH.cons (o := ?oi_20_0) ?hi_20_0 (fun K hK => ?_) AllReadyH.nil
    case hi_20_0 => simp only [List.getElem?_toArray, List.getElem?_cons_zero, List.getElem?_cons_succ]; rfl
    go_simp
    (go_at_call 20
     with_reducible refine (SS1.out _ HBws.out).mono ?_
     rintro e wt ⟨rfl, hbn⟩
     have HBwt : Hid (Below W5.heap.size W5 wt) := Lib.hid (HBws.out.trans (hbn.mono HBws.out.size))
     clear hbn)
    refine hK.out _ _ HBwt.out (fun hHeld => ?_)
    clear hK K
    try simp only [Act.put, List.setIfInBounds_toArray, List.set_cons_zero, List.set_cons_succ]
    refine wpAnyH_take (i := 20) (oi := ?oi_21_0) (v := ?_) ?hi_21_0 (by kernel_rfl) ?hf_21_0 (by kernel_rfl) ?hQ_21_0 ?hy_21_0 (by assumption) ?_
    case hi_21_0 => simp only [List.getElem?_toArray, List.getElem?_cons_zero, List.getElem?_cons_succ]; rfl
    case hf_21_0 => kernel_rfl
    case hQ_21_0 => exact fun _ _ _ h => h
    case hy_21_0 =>
      refine Or.inl ⟨by rfl, ?_⟩
      intro W hSw
      go_simp
      try with_reducible rfl
    try simp only [Act.put, List.setIfInBounds_toArray, List.set_cons_zero, List.set_cons_succ]
    refine wpAnyH_take (i := 21) (oi := ?oi_22_0) (v := ?_) ?hi_22_0 (by kernel_rfl) ?hf_22_0 (by kernel_rfl) ?hQ_22_0 ?hy_22_0 (by assumption) ?_
    case hi_22_0 => simp only [List.getElem?_toArray, List.getElem?_cons_zero, List.getElem?_cons_succ]; rfl
    case hf_22_0 => kernel_rfl
    case hQ_22_0 => exact fun _ _ _ h => h
    case hy_22_0 =>
      refine Or.inl ⟨by rfl, ?_⟩
      intro W hSw
      go_simp
      try with_reducible rfl
    try simp only [Act.put, List.setIfInBounds_toArray, List.set_cons_zero, List.set_cons_succ]
    refine wpAnyH_take (i := 22) (oi := ?oi_23_0) (v := ?_) ?hi_23_0 (by kernel_rfl) ?hf_23_0 (by kernel_rfl) ?hQ_23_0 ?hy_23_0 (by assumption) ?_
    case hi_23_0 => simp only [List.getElem?_toArray, List.getElem?_cons_zero, List.getElem?_cons_succ]; rfl
    case hf_23_0 => kernel_rfl
    case hQ_23_0 => exact fun _ _ _ h => h
    case hy_23_0 =>
      refine Or.inl ⟨by rfl, ?_⟩
      intro W hSw
      go_simp
      try with_reducible rfl
    try simp only [Act.put, List.setIfInBounds_toArray, List.set_cons_zero, List.set_cons_succ]
    refine wpAnyH_take (i := 23) (oi := ?oi_24_0) (v := ?_) ?hi_24_0 (by kernel_rfl) ?hf_24_0 (by kernel_rfl) ?hQ_24_0 ?hy_24_0 (by assumption) ?_
    case hi_24_0 => simp only [List.getElem?_toArray, List.getElem?_cons_zero, List.getElem?_cons_succ]; rfl
    case hf_24_0 => kernel_rfl
    case hQ_24_0 => exact fun _ _ _ h => h
    case hy_24_0 =>
      refine Or.inl ⟨by rfl, ?_⟩
      intro W hSw
      have x0 := (HX9.out W hSw).2.2.1
      have x1 := (HX9.out W hSw).2.2.2
      go_simp
      try with_reducible rfl
    try simp only [Act.put, List.setIfInBounds_toArray, List.set_cons_zero, List.set_cons_succ]
    refine wpAnyH_take (i := 24) (oi := ?oi_25_0) (v := ?_) ?hi_25_0 (by kernel_rfl) ?hf_25_0 (by kernel_rfl) ?hQ_25_0 ?hy_25_0 (by assumption) ?_
    case hi_25_0 => simp only [List.getElem?_toArray, List.getElem?_cons_zero, List.getElem?_cons_succ]; rfl
    case hf_25_0 => kernel_rfl
    case hQ_25_0 => exact fun _ _ _ h => h
    case hy_25_0 =>
      refine Or.inl ⟨by rfl, ?_⟩
      intro W hSw
      have x0 := (HX9.out W hSw).1
      have x1 := (HX9.out W hSw).2.1
      go_simp
      try with_reducible rfl
    try simp only [Act.put, List.setIfInBounds_toArray, List.set_cons_zero, List.set_cons_succ]
    refine wpAnyH_take (i := 26) (oi := ?oi_26_0) (v := ?_) ?hi_26_0 (by kernel_rfl) ?hf_26_0 (by kernel_rfl) ?hQ_26_0 ?hy_26_0 (by assumption) ?_
    case hi_26_0 => simp only [List.getElem?_toArray, List.getElem?_cons_zero, List.getElem?_cons_succ]; rfl
    case hf_26_0 => kernel_rfl
    case hQ_26_0 => exact fun _ _ _ h => h
    case hy_26_0 =>
      refine Or.inl ⟨by rfl, ?_⟩
      intro W hSw
      go_simp
      try with_reducible rfl
    try simp only [Act.put, List.setIfInBounds_toArray, List.set_cons_zero, List.set_cons_succ]
    refine wpAnyH_ready (rs := [25]) (by kernel_rfl) (by simp) ?_
    refine AllReadyH.cons (o := ?oi_27_0) ?hi_27_0 (fun K hK => ?_) AllReadyH.nil
    case hi_27_0 => simp only [List.getElem?_toArray, List.getElem?_cons_zero, List.getElem?_cons_succ]; rfl
    go_simp
    (go_at_call 20
     with_reducible refine (SS2.out _ HBwt.out).mono ?_
     rintro e wu ⟨rfl, hbn⟩
     have HBwu : Hid (Below W5.heap.size W5 wu) := Lib.hid (HBwt.out.trans (hbn.mono HBwt.out.size))
     clear hbn)
    refine hK.out _ _ HBwu.out (fun hHeld => ?_)
    clear hK K
    try simp only [Act.put, List.setIfInBounds_toArray, List.set_cons_zero, List.set_cons_succ]
    refine wpAnyH_take (i := 27) (oi := ?oi_28_0) (v := ?_) ?hi_28_0 (by kernel_rfl) ?hf_28_0 (by kernel_rfl) ?hQ_28_0 ?hy_28_0 (by assumption) ?_
    case hi_28_0 => simp only [List.getElem?_toArray, List.getElem?_cons_zero, List.getElem?_cons_succ]; rfl
    case hf_28_0 => kernel_rfl
    case hQ_28_0 => exact fun _ _ _ h => h
    case hy_28_0 =>
      refine Or.inl ⟨by rfl, ?_⟩
      intro W hSw
      go_simp
      try with_reducible rfl
    try simp only [Act.put, List.setIfInBounds_toArray, List.set_cons_zero, List.set_cons_succ]
    refine wpAnyH_take (i := 28) (oi := ?oi_29_0) (v := ?_) ?hi_29_0 (by kernel_rfl) ?hf_29_0 (by kernel_rfl) ?hQ_29_0 ?hy_29_0 (by assumption) ?_
    case hi_29_0 => simp only [List.getElem?_toArray, List.getElem?_cons_zero, List.getElem?_cons_succ]; rfl
    case hf_29_0 => kernel_rfl
    case hQ_29_0 => exact fun _ _ _ h => h
    case hy_29_0 =>
      refine Or.inl ⟨by rfl, ?_⟩
      intro W hSw
      go_simp
      try with_reducible rfl
    try simp only [Act.put, List.setIfInBounds_toArray, List.set_cons_zero, List.set_cons_succ]
    refine wpAnyH_take (i := 29) (oi := ?oi_30_0) (v := ?_) ?hi_30_0 (by kernel_rfl) ?hf_30_0 (by kernel_rfl) ?hQ_30_0 ?hy_30_0 (by assumption) ?_
    case hi_30_0 => simp only [List.getElem?_toArray, List.getElem?_cons_zero, List.getElem?_cons_succ]; rfl
    case hf_30_0 => kernel_rfl
    case hQ_30_0 => exact fun _ _ _ h => h
    case hy_30_0 =>
      refine Or.inl ⟨by rfl, ?_⟩
      intro W hSw
      go_simp
      try with_reducible rfl
    try simp only [Act.put, List.setIfInBounds_toArray, List.set_cons_zero, List.set_cons_succ]
    refine wpAnyH_done (by kernel_rfl) ?_ _
    clear hHeld
    go_wp2
    go_ret
    exact ⟨by simp, HB5.out.trans (HBwu.out.mono HB5.out.size)⟩
  ·
    have HD5 : Hid (Below W5.heap.size W5 W5.drew) := Lib.hid (bdD (Below.refl _ _))
    refine wp_region_held_drew (S := (fun W => Below W5.heap.size W5 W)) (by kernel_rfl) HD5.out (fun hHeld => ?_)
    refine wpAnyH_take (i := 0) (oi := ?oi_1_1) (v := ?_) ?hi_1_1 (by kernel_rfl) ?hf_1_1 (by kernel_rfl) ?hQ_1_1 ?hy_1_1 (by assumption) ?_
    case hi_1_1 => simp only [List.getElem?_toArray, List.getElem?_cons_zero, List.getElem?_cons_succ]; rfl
    case hf_1_1 => kernel_rfl
    case hQ_1_1 => exact fun _ _ _ h => h
    case hy_1_1 =>
      refine Or.inl ⟨by rfl, ?_⟩
      intro W hSw
      have x0 := (HX9.out W hSw).1
      have x1 := (HX9.out W hSw).2.1
      go_simp
      try with_reducible rfl
    try simp only [Act.put, List.setIfInBounds_toArray, List.set_cons_zero, List.set_cons_succ]
    refine wpAnyH_ready (rs := [1]) (by kernel_rfl) (by simp) ?_
    refine AllReadyH.cons (o := ?oi_2_1) ?hi_2_1 (fun K hK => ?_) AllReadyH.nil
    case hi_2_1 => simp only [List.getElem?_toArray, List.getElem?_cons_zero, List.getElem?_cons_succ]; rfl
    go_simp
    (go_at_call 18
     with_reducible refine (SR1.out _ HD5.out).mono ?_
     rintro e wp ⟨rfl, hbn⟩
     have HBwp : Hid (Below W5.heap.size W5 wp) := Lib.hid (HD5.out.trans (hbn.mono HD5.out.size))
     clear hbn)
    refine hK.out _ _ HBwp.out (fun hHeld => ?_)
    clear hK K
    try simp only [Act.put, List.setIfInBounds_toArray, List.set_cons_zero, List.set_cons_succ]
    refine wpAnyH_take (i := 2) (oi := ?oi_3_1) (v := ?_) ?hi_3_1 (by kernel_rfl) ?hf_3_1 (by kernel_rfl) ?hQ_3_1 ?hy_3_1 (by assumption) ?_
    case hi_3_1 => simp only [List.getElem?_toArray, List.getElem?_cons_zero, List.getElem?_cons_succ]; rfl
    case hf_3_1 => kernel_rfl
    case hQ_3_1 => exact fun _ _ _ h => h
    case hy_3_1 =>
      refine Or.inl ⟨by rfl, ?_⟩
      intro W hSw
      go_simp
      try with_reducible rfl
    try simp only [Act.put, List.setIfInBounds_toArray, List.set_cons_zero, List.set_cons_succ]
    refine wpAnyH_take (i := 3) (oi := ?oi_4_1) (v := ?_) ?hi_4_1 (by kernel_rfl) ?hf_4_1 (by kernel_rfl) ?hQ_4_1 ?hy_4_1 (by assumption) ?_
    case hi_4_1 => simp only [List.getElem?_toArray, List.getElem?_cons_zero, List.getElem?_cons_succ]; rfl
    case hf_4_1 => kernel_rfl
    case hQ_4_1 => exact fun _ _ _ h => h
    case hy_4_1 =>
      refine Or.inl ⟨by rfl, ?_⟩
      intro W hSw
      have x0 := (HX9.out W hSw).2.2.1
      have x1 := (HX9.out W hSw).2.2.2
      go_simp
      try with_reducible rfl
    try simp only [Act.put, List.setIfInBounds_toArray, List.set_cons_zero, List.set_cons_succ]
    refine wpAnyH_ready (rs := [4]) (by kernel_rfl) (by simp) ?_
    refine AllReadyH.cons (o := ?oi_5_1) ?hi_5_1 (fun K hK => ?_) AllReadyH.nil
    case hi_5_1 => simp only [List.getElem?_toArray, List.getElem?_cons_zero, List.getElem?_cons_succ]; rfl
    go_simp
    (go_at_call 18
     with_reducible refine (SR2.out _ HBwp.out).mono ?_
     rintro e wq ⟨rfl, hbn⟩
     have HBwq : Hid (Below W5.heap.size W5 wq) := Lib.hid (HBwp.out.trans (hbn.mono HBwp.out.size))
     clear hbn)
    refine hK.out _ _ HBwq.out (fun hHeld => ?_)
    clear hK K
    try simp only [Act.put, List.setIfInBounds_toArray, List.set_cons_zero, List.set_cons_succ]
    refine wpAnyH_take (i := 5) (oi := ?oi_6_1) (v := ?_) ?hi_6_1 (by kernel_rfl) ?hf_6_1 (by kernel_rfl) ?hQ_6_1 ?hy_6_1 (by assumption) ?_
    case hi_6_1 => simp only [List.getElem?_toArray, List.getElem?_cons_zero, List.getElem?_cons_succ]; rfl
    case hf_6_1 => kernel_rfl
    case hQ_6_1 => exact fun _ _ _ h => h
    case hy_6_1 =>
      refine Or.inl ⟨by rfl, ?_⟩
      intro W hSw
      go_simp
      try with_reducible rfl
    try simp only [Act.put, List.setIfInBounds_toArray, List.set_cons_zero, List.set_cons_succ]
    refine wpAnyH_take (i := 6) (oi := ?oi_7_1) (v := ?_) ?hi_7_1 (by kernel_rfl) ?hf_7_1 (by kernel_rfl) ?hQ_7_1 ?hy_7_1 (by assumption) ?_
    case hi_7_1 => simp only [List.getElem?_toArray, List.getElem?_cons_zero, List.getElem?_cons_succ]; rfl
    case hf_7_1 => kernel_rfl
    case hQ_7_1 => exact fun _ _ _ h => h
    case hy_7_1 =>
      refine Or.inl ⟨by rfl, ?_⟩
      intro W hSw
      go_simp
      try with_reducible rfl
    try simp only [Act.put, List.setIfInBounds_toArray, List.set_cons_zero, List.set_cons_succ]
    refine wpAnyH_take (i := 7) (oi := ?oi_8_1) (v := ?_) ?hi_8_1 (by kernel_rfl) ?hf_8_1 (by kernel_rfl) ?hQ_8_1 ?hy_8_1 (by assumption) ?_
    case hi_8_1 => simp only [List.getElem?_toArray, List.getElem?_cons_zero, List.getElem?_cons_succ]; rfl
    case hf_8_1 => kernel_rfl
    case hQ_8_1 => exact fun _ _ _ h => h
    case hy_8_1 =>
      refine Or.inl ⟨by rfl, ?_⟩
      intro W hSw
      have x0 := (HX9.out W hSw).1
      have x1 := (HX9.out W hSw).2.1
      go_simp
      try with_reducible rfl
    try simp only [Act.put, List.setIfInBounds_toArray, List.set_cons_zero, List.set_cons_succ]
    refine wpAnyH_take (i := 9) (oi := ?oi_9_1) (v := ?_) ?hi_9_1 (by kernel_rfl) ?hf_9_1 (by kernel_rfl) ?hQ_9_1 ?hy_9_1 (by assumption) ?_
    case hi_9_1 => simp only [List.getElem?_toArray, List.getElem?_cons_zero, List.getElem?_cons_succ]; rfl
    case hf_9_1 => kernel_rfl
    case hQ_9_1 => exact fun _ _ _ h => h
    case hy_9_1 =>
      refine Or.inl ⟨by rfl, ?_⟩
      intro W hSw
      have x0 := (HX9.out W hSw).2.2.1
      have x1 := (HX9.out W hSw).2.2.2
      go_simp
      try with_reducible rfl
    try simp only [Act.put, List.setIfInBounds_toArray, List.set_cons_zero, List.set_cons_succ]
    refine wpAnyH_take (i := 12) (oi := ?oi_10_1) (v := ?_) ?hi_10_1 (by kernel_rfl) ?hf_10_1 (by kernel_rfl) ?hQ_10_1 ?hy_10_1 (by assumption) ?_
    case hi_10_1 => simp only [List.getElem?_toArray, List.getElem?_cons_zero, List.getElem?_cons_succ]; rfl
    case hf_10_1 => kernel_rfl
    case hQ_10_1 => exact fun _ _ _ h => h
    case hy_10_1 =>
      refine Or.inl ⟨by rfl, ?_⟩
      intro W hSw
      go_simp
      try with_reducible rfl
    try simp only [Act.put, List.setIfInBounds_toArray, List.set_cons_zero, List.set_cons_succ]
    refine wpAnyH_ready (rs := [8]) (by kernel_rfl) (by simp) ?_
    refine AllReadyH.cons (o := ?oi_11_1) ?hi_11_1 (fun K hK => ?_) AllReadyH.nil
    case hi_11_1 => simp only [List.getElem?_toArray, List.getElem?_cons_zero, List.getElem?_cons_succ]; rfl
    go_simp
    (go_at_call 17
     with_reducible refine (SP1.out _ HBwq.out).mono ?_
     rintro e wr ⟨rfl, hbn⟩
     have HBwr : Hid (Below W5.heap.size W5 wr) := Lib.hid (HBwq.out.trans (hbn.mono HBwq.out.size))
     clear hbn)
    refine hK.out _ _ HBwr.out (fun hHeld => ?_)
    clear hK K
    try simp only [Act.put, List.setIfInBounds_toArray, List.set_cons_zero, List.set_cons_succ]
    refine wpAnyH_ready (rs := [10]) (by kernel_rfl) (by simp) ?_
    refine AllReadyH.cons (o := ?oi_12_1) ?hi_12_1 (fun K hK => ?_) AllReadyH.nil
    case hi_12_1 => simp only [List.getElem?_toArray, List.getElem?_cons_zero, List.getElem?_cons_succ]; rfl
    go_simp
    (go_at_call 17
     with_reducible refine (SP2.out _ HBwr.out).mono ?_
     rintro e ws ⟨rfl, hbn⟩
     have HBws : Hid (Below W5.heap.size W5 ws) := Lib.hid (HBwr.out.trans (hbn.mono HBwr.out.size))
     clear hbn)
    refine hK.out _ _ HBws.out (fun hHeld => ?_)
    clear hK K
    try simp only [Act.put, List.setIfInBounds_toArray, List.set_cons_zero, List.set_cons_succ]
    refine wpAnyH_take (i := 11) (oi := ?oi_13_1) (v := ?_) ?hi_13_1 (by kernel_rfl) ?hf_13_1 (by kernel_rfl) ?hQ_13_1 ?hy_13_1 (by assumption) ?_
    case hi_13_1 => simp only [List.getElem?_toArray, List.getElem?_cons_zero, List.getElem?_cons_succ]; rfl
    case hf_13_1 => kernel_rfl
    case hQ_13_1 => exact fun _ _ _ h => h
    case hy_13_1 =>
      refine Or.inl ⟨by rfl, ?_⟩
      intro W hSw
      go_simp
      try with_reducible rfl
    try simp only [Act.put, List.setIfInBounds_toArray, List.set_cons_zero, List.set_cons_succ]
    refine wpAnyH_take (i := 13) (oi := ?oi_14_1) (v := ?_) ?hi_14_1 (by kernel_rfl) ?hf_14_1 (by kernel_rfl) ?hQ_14_1 ?hy_14_1 (by assumption) ?_
    case hi_14_1 => simp only [List.getElem?_toArray, List.getElem?_cons_zero, List.getElem?_cons_succ]; rfl
    case hf_14_1 => kernel_rfl
    case hQ_14_1 => exact fun _ _ _ h => h
    case hy_14_1 =>
      refine Or.inl ⟨by rfl, ?_⟩
      intro W hSw
      go_simp
      try with_reducible rfl
    try simp only [Act.put, List.setIfInBounds_toArray, List.set_cons_zero, List.set_cons_succ]
    refine wpAnyH_take (i := 14) (oi := ?oi_15_1) (v := ?_) ?hi_15_1 (by kernel_rfl) ?hf_15_1 (by kernel_rfl) ?hQ_15_1 ?hy_15_1 (by assumption) ?_
    case hi_15_1 => simp only [List.getElem?_toArray, List.getElem?_cons_zero, List.getElem?_cons_succ]; rfl
    case hf_15_1 => kernel_rfl
    case hQ_15_1 => exact fun _ _ _ h => h
    case hy_15_1 =>
      refine Or.inl ⟨by rfl, ?_⟩
      intro W hSw
      go_simp
      try with_reducible rfl
    try simp only [Act.put, List.setIfInBounds_toArray, List.set_cons_zero, List.set_cons_succ]
    refine wpAnyH_take (i := 15) (oi := ?oi_16_1) (v := ?_) ?hi_16_1 (by kernel_rfl) ?hf_16_1 (by kernel_rfl) ?hQ_16_1 ?hy_16_1 (by assumption) ?_
    case hi_16_1 => simp only [List.getElem?_toArray, List.getElem?_cons_zero, List.getElem?_cons_succ]; rfl
    case hf_16_1 => kernel_rfl
    case hQ_16_1 => exact fun _ _ _ h => h
    case hy_16_1 =>
      refine Or.inl ⟨by rfl, ?_⟩
      intro W hSw
      go_simp
      try with_reducible rfl
    try simp only [Act.put, List.setIfInBounds_toArray, List.set_cons_zero, List.set_cons_succ]
    refine wpAnyH_take (i := 16) (oi := ?oi_17_1) (v := ?_) ?hi_17_1 (by kernel_rfl) ?hf_17_1 (by kernel_rfl) ?hQ_17_1 ?hy_17_1 (by assumption) ?_
    case hi_17_1 => simp only [List.getElem?_toArray, List.getElem?_cons_zero, List.getElem?_cons_succ]; rfl
    case hf_17_1 => kernel_rfl
    case hQ_17_1 => exact fun _ _ _ h => h
    case hy_17_1 =>
      refine Or.inl ⟨by rfl, ?_⟩
      intro W hSw
      have x0 := (HX9.out W hSw).1
      have x1 := (HX9.out W hSw).2.1
      go_simp
      try with_reducible rfl
    try simp only [Act.put, List.setIfInBounds_toArray, List.set_cons_zero, List.set_cons_succ]
    refine wpAnyH_take (i := 17) (oi := ?oi_18_1) (v := ?_) ?hi_18_1 (by kernel_rfl) ?hf_18_1 (by kernel_rfl) ?hQ_18_1 ?hy_18_1 (by assumption) ?_
    case hi_18_1 => simp only [List.getElem?_toArray, List.getElem?_cons_zero, List.getElem?_cons_succ]; rfl
    case hf_18_1 => kernel_rfl
    case hQ_18_1 => exact fun _ _ _ h => h
    case hy_18_1 =>
      refine Or.inl ⟨by rfl, ?_⟩
      intro W hSw
      have x0 := (HX9.out W hSw).2.2.1
      have x1 := (HX9.out W hSw).2.2.2
      go_simp
      try with_reducible rfl
    try simp only [Act.put, List.setIfInBounds_toArray, List.set_cons_zero, List.set_cons_succ]
    refine wpAnyH_take (i := 19) (oi := ?oi_19_1) (v := ?_) ?hi_19_1 (by kernel_rfl) ?hf_19_1 (by kernel_rfl) ?hQ_19_1 ?hy_19_1 (by assumption) ?_
    case hi_19_1 => simp only [List.getElem?_toArray, List.getElem?_cons_zero, List.getElem?_cons_succ]; rfl
    case hf_19_1 => kernel_rfl
    case hQ_19_1 => exact fun _ _ _ h => h
    case hy_19_1 =>
      refine Or.inl ⟨by rfl, ?_⟩
      intro W hSw
      go_simp
      try with_reducible rfl
    try simp only [Act.put, List.setIfInBounds_toArray, List.set_cons_zero, List.set_cons_succ]
    refine wpAnyH_ready (rs := [18]) (by kernel_rfl) (by simp) ?_
    refine AllReadyH.cons (o := ?oi_20_1) ?hi_20_1 (fun K hK => ?_) AllReadyH.nil
    case hi_20_1 => simp only [List.getElem?_toArray, List.getElem?_cons_zero, List.getElem?_cons_succ]; rfl
    go_simp
    (go_at_call 20
     with_reducible refine (SS1.out _ HBws.out).mono ?_
     rintro e wt ⟨rfl, hbn⟩
     have HBwt : Hid (Below W5.heap.size W5 wt) := Lib.hid (HBws.out.trans (hbn.mono HBws.out.size))
     clear hbn)
    refine hK.out _ _ HBwt.out (fun hHeld => ?_)
    clear hK K
    try simp only [Act.put, List.setIfInBounds_toArray, List.set_cons_zero, List.set_cons_succ]
    refine wpAnyH_take (i := 20) (oi := ?oi_21_1) (v := ?_) ?hi_21_1 (by kernel_rfl) ?hf_21_1 (by kernel_rfl) ?hQ_21_1 ?hy_21_1 (by assumption) ?_
    case hi_21_1 => simp only [List.getElem?_toArray, List.getElem?_cons_zero, List.getElem?_cons_succ]; rfl
    case hf_21_1 => kernel_rfl
    case hQ_21_1 => exact fun _ _ _ h => h
    case hy_21_1 =>
      refine Or.inl ⟨by rfl, ?_⟩
      intro W hSw
      go_simp
      try with_reducible rfl
    try simp only [Act.put, List.setIfInBounds_toArray, List.set_cons_zero, List.set_cons_succ]
    refine wpAnyH_take (i := 21) (oi := ?oi_22_1) (v := ?_) ?hi_22_1 (by kernel_rfl) ?hf_22_1 (by kernel_rfl) ?hQ_22_1 ?hy_22_1 (by assumption) ?_
    case hi_22_1 => simp only [List.getElem?_toArray, List.getElem?_cons_zero, List.getElem?_cons_succ]; rfl
    case hf_22_1 => kernel_rfl
    case hQ_22_1 => exact fun _ _ _ h => h
    case hy_22_1 =>
      refine Or.inl ⟨by rfl, ?_⟩
      intro W hSw
      go_simp
      try with_reducible rfl
    try simp only [Act.put, List.setIfInBounds_toArray, List.set_cons_zero, List.set_cons_succ]
    refine wpAnyH_take (i := 22) (oi := ?oi_23_1) (v := ?_) ?hi_23_1 (by kernel_rfl) ?hf_23_1 (by kernel_rfl) ?hQ_23_1 ?hy_23_1 (by assumption) ?_
    case hi_23_1 => simp only [List.getElem?_toArray, List.getElem?_cons_zero, List.getElem?_cons_succ]; rfl
    case hf_23_1 => kernel_rfl
    case hQ_23_1 => exact fun _ _ _ h => h
    case hy_23_1 =>
      refine Or.inl ⟨by rfl, ?_⟩
      intro W hSw
      go_simp
      try with_reducible rfl
    try simp only [Act.put, List.setIfInBounds_toArray, List.set_cons_zero, List.set_cons_succ]
    refine wpAnyH_take (i := 23) (oi := ?oi_24_1) (v := ?_) ?hi_24_1 (by kernel_rfl) ?hf_24_1 (by kernel_rfl) ?hQ_24_1 ?hy_24_1 (by assumption) ?_
    case hi_24_1 => simp only [List.getElem?_toArray, List.getElem?_cons_zero, List.getElem?_cons_succ]; rfl
    case hf_24_1 => kernel_rfl
    case hQ_24_1 => exact fun _ _ _ h => h
    case hy_24_1 =>
      refine Or.inl ⟨by rfl, ?_⟩
      intro W hSw
      have x0 := (HX9.out W hSw).2.2.1
      have x1 := (HX9.out W hSw).2.2.2
      go_simp
      try with_reducible rfl
    try simp only [Act.put, List.setIfInBounds_toArray, List.set_cons_zero, List.set_cons_succ]
    refine wpAnyH_take (i := 24) (oi := ?oi_25_1) (v := ?_) ?hi_25_1 (by kernel_rfl) ?hf_25_1 (by kernel_rfl) ?hQ_25_1 ?hy_25_1 (by assumption) ?_
    case hi_25_1 => simp only [List.getElem?_toArray, List.getElem?_cons_zero, List.getElem?_cons_succ]; rfl
    case hf_25_1 => kernel_rfl
    case hQ_25_1 => exact fun _ _ _ h => h
    case hy_25_1 =>
      refine Or.inl ⟨by rfl, ?_⟩
      intro W hSw
      have x0 := (HX9.out W hSw).1
      have x1 := (HX9.out W hSw).2.1
      go_simp
      try with_reducible rfl
    try simp only [Act.put, List.setIfInBounds_toArray, List.set_cons_zero, List.set_cons_succ]
    refine wpAnyH_take (i := 26) (oi := ?oi_26_1) (v := ?_) ?hi_26_1 (by kernel_rfl) ?hf_26_1 (by kernel_rfl) ?hQ_26_1 ?hy_26_1 (by assumption) ?_
    case hi_26_1 => simp only [List.getElem?_toArray, List.getElem?_cons_zero, List.getElem?_cons_succ]; rfl
    case hf_26_1 => kernel_rfl
    case hQ_26_1 => exact fun _ _ _ h => h
    case hy_26_1 =>
      refine Or.inl ⟨by rfl, ?_⟩
      intro W hSw
      go_simp
      try with_reducible rfl
    try simp only [Act.put, List.setIfInBounds_toArray, List.set_cons_zero, List.set_cons_succ]
    refine wpAnyH_ready (rs := [25]) (by kernel_rfl) (by simp) ?_
    refine AllReadyH.cons (o := ?oi_27_1) ?hi_27_1 (fun K hK => ?_) AllReadyH.nil
    case hi_27_1 => simp only [List.getElem?_toArray, List.getElem?_cons_zero, List.getElem?_cons_succ]; rfl
    go_simp
    (go_at_call 20
     with_reducible refine (SS2.out _ HBwt.out).mono ?_
     rintro e wu ⟨rfl, hbn⟩
     have HBwu : Hid (Below W5.heap.size W5 wu) := Lib.hid (HBwt.out.trans (hbn.mono HBwt.out.size))
     clear hbn)
    refine hK.out _ _ HBwu.out (fun hHeld => ?_)
    clear hK K
    try simp only [Act.put, List.setIfInBounds_toArray, List.set_cons_zero, List.set_cons_succ]
    refine wpAnyH_take (i := 27) (oi := ?oi_28_1) (v := ?_) ?hi_28_1 (by kernel_rfl) ?hf_28_1 (by kernel_rfl) ?hQ_28_1 ?hy_28_1 (by assumption) ?_
    case hi_28_1 => simp only [List.getElem?_toArray, List.getElem?_cons_zero, List.getElem?_cons_succ]; rfl
    case hf_28_1 => kernel_rfl
    case hQ_28_1 => exact fun _ _ _ h => h
    case hy_28_1 =>
      refine Or.inl ⟨by rfl, ?_⟩
      intro W hSw
      go_simp
      try with_reducible rfl
    try simp only [Act.put, List.setIfInBounds_toArray, List.set_cons_zero, List.set_cons_succ]
    refine wpAnyH_take (i := 28) (oi := ?oi_29_1) (v := ?_) ?hi_29_1 (by kernel_rfl) ?hf_29_1 (by kernel_rfl) ?hQ_29_1 ?hy_29_1 (by assumption) ?_
    case hi_29_1 => simp only [List.getElem?_toArray, List.getElem?_cons_zero, List.getElem?_cons_succ]; rfl
    case hf_29_1 => kernel_rfl
    case hQ_29_1 => exact fun _ _ _ h => h
    case hy_29_1 =>
      refine Or.inl ⟨by rfl, ?_⟩
      intro W hSw
      go_simp
      try with_reducible rfl
    try simp only [Act.put, List.setIfInBounds_toArray, List.set_cons_zero, List.set_cons_succ]
    refine wpAnyH_take (i := 29) (oi := ?oi_30_1) (v := ?_) ?hi_30_1 (by kernel_rfl) ?hf_30_1 (by kernel_rfl) ?hQ_30_1 ?hy_30_1 (by assumption) ?_
    case hi_30_1 => simp only [List.getElem?_toArray, List.getElem?_cons_zero, List.getElem?_cons_succ]; rfl
    case hf_30_1 => kernel_rfl
    case hQ_30_1 => exact fun _ _ _ h => h
    case hy_30_1 =>
      refine Or.inl ⟨by rfl, ?_⟩
      intro W hSw
      go_simp
      try with_reducible rfl
    try simp only [Act.put, List.setIfInBounds_toArray, List.set_cons_zero, List.set_cons_succ]
    refine wpAnyH_done (by kernel_rfl) ?_ _
    clear hHeld
    go_wp2
    go_ret
    exact ⟨by simp, HB5.out.trans (HBwu.out.mono HB5.out.size)⟩
  ·
    have HD5 : Hid (Below W5.heap.size W5 W5.drew) := Lib.hid (bdD (Below.refl _ _))
    refine wp_region_held_drew (S := (fun W => Below W5.heap.size W5 W)) (by kernel_rfl) HD5.out (fun hHeld => ?_)
    refine wpAnyH_take (i := 0) (oi := ?oi_1_2) (v := ?_) ?hi_1_2 (by kernel_rfl) ?hf_1_2 (by kernel_rfl) ?hQ_1_2 ?hy_1_2 (by assumption) ?_
    case hi_1_2 => simp only [List.getElem?_toArray, List.getElem?_cons_zero, List.getElem?_cons_succ]; rfl
    case hf_1_2 => kernel_rfl
    case hQ_1_2 => exact fun _ _ _ h => h
    case hy_1_2 =>
      refine Or.inl ⟨by rfl, ?_⟩
      intro W hSw
      have x0 := (HX9.out W hSw).1
      have x1 := (HX9.out W hSw).2.1
      go_simp
      try with_reducible rfl
    try simp only [Act.put, List.setIfInBounds_toArray, List.set_cons_zero, List.set_cons_succ]
    refine wpAnyH_ready (rs := [1]) (by kernel_rfl) (by simp) ?_
    refine AllReadyH.cons (o := ?oi_2_2) ?hi_2_2 (fun K hK => ?_) AllReadyH.nil
    case hi_2_2 => simp only [List.getElem?_toArray, List.getElem?_cons_zero, List.getElem?_cons_succ]; rfl
    go_simp
    (go_at_call 18
     with_reducible refine (SR1.out _ HD5.out).mono ?_
     rintro e wp ⟨rfl, hbn⟩
     have HBwp : Hid (Below W5.heap.size W5 wp) := Lib.hid (HD5.out.trans (hbn.mono HD5.out.size))
     clear hbn)
    refine hK.out _ _ HBwp.out (fun hHeld => ?_)
    clear hK K
    try simp only [Act.put, List.setIfInBounds_toArray, List.set_cons_zero, List.set_cons_succ]
    refine wpAnyH_take (i := 2) (oi := ?oi_3_2) (v := ?_) ?hi_3_2 (by kernel_rfl) ?hf_3_2 (by kernel_rfl) ?hQ_3_2 ?hy_3_2 (by assumption) ?_
    case hi_3_2 => simp only [List.getElem?_toArray, List.getElem?_cons_zero, List.getElem?_cons_succ]; rfl
    case hf_3_2 => kernel_rfl
    case hQ_3_2 => exact fun _ _ _ h => h
    case hy_3_2 =>
      refine Or.inl ⟨by rfl, ?_⟩
      intro W hSw
      go_simp
      try with_reducible rfl
    try simp only [Act.put, List.setIfInBounds_toArray, List.set_cons_zero, List.set_cons_succ]
    refine wpAnyH_take (i := 3) (oi := ?oi_4_2) (v := ?_) ?hi_4_2 (by kernel_rfl) ?hf_4_2 (by kernel_rfl) ?hQ_4_2 ?hy_4_2 (by assumption) ?_
    case hi_4_2 => simp only [List.getElem?_toArray, List.getElem?_cons_zero, List.getElem?_cons_succ]; rfl
    case hf_4_2 => kernel_rfl
    case hQ_4_2 => exact fun _ _ _ h => h
    case hy_4_2 =>
      refine Or.inl ⟨by rfl, ?_⟩
      intro W hSw
      have x0 := (HX9.out W hSw).2.2.1
      have x1 := (HX9.out W hSw).2.2.2
      go_simp
      try with_reducible rfl
    try simp only [Act.put, List.setIfInBounds_toArray, List.set_cons_zero, List.set_cons_succ]
    refine wpAnyH_ready (rs := [4]) (by kernel_rfl) (by simp) ?_
    refine AllReadyH.cons (o := ?oi_5_2) ?hi_5_2 (fun K hK => ?_) AllReadyH.nil
    case hi_5_2 => simp only [List.getElem?_toArray, List.getElem?_cons_zero, List.getElem?_cons_succ]; rfl
    go_simp
    (go_at_call 18
     with_reducible refine (SR2.out _ HBwp.out).mono ?_
     rintro e wq ⟨rfl, hbn⟩
     have HBwq : Hid (Below W5.heap.size W5 wq) := Lib.hid (HBwp.out.trans (hbn.mono HBwp.out.size))
     clear hbn)
    refine hK.out _ _ HBwq.out (fun hHeld => ?_)
    clear hK K
    try simp only [Act.put, List.setIfInBounds_toArray, List.set_cons_zero, List.set_cons_succ]
    refine wpAnyH_take (i := 5) (oi := ?oi_6_2) (v := ?_) ?hi_6_2 (by kernel_rfl) ?hf_6_2 (by kernel_rfl) ?hQ_6_2 ?hy_6_2 (by assumption) ?_
    case hi_6_2 => simp only [List.getElem?_toArray, List.getElem?_cons_zero, List.getElem?_cons_succ]; rfl
    case hf_6_2 => kernel_rfl
    case hQ_6_2 => exact fun _ _ _ h => h
    case hy_6_2 =>
      refine Or.inl ⟨by rfl, ?_⟩
      intro W hSw
      go_simp
      try with_reducible rfl
    try simp only [Act.put, List.setIfInBounds_toArray, List.set_cons_zero, List.set_cons_succ]
    refine wpAnyH_take (i := 6) (oi := ?oi_7_2) (v := ?_) ?hi_7_2 (by kernel_rfl) ?hf_7_2 (by kernel_rfl) ?hQ_7_2 ?hy_7_2 (by assumption) ?_
    case hi_7_2 => simp only [List.getElem?_toArray, List.getElem?_cons_zero, List.getElem?_cons_succ]; rfl
    case hf_7_2 => kernel_rfl
    case hQ_7_2 => exact fun _ _ _ h => h
    case hy_7_2 =>
      refine Or.inl ⟨by rfl, ?_⟩
      intro W hSw
      go_simp
      try with_reducible rfl
    try simp only [Act.put, List.setIfInBounds_toArray, List.set_cons_zero, List.set_cons_succ]
    refine wpAnyH_take (i := 7) (oi := ?oi_8_2) (v := ?_) ?hi_8_2 (by kernel_rfl) ?hf_8_2 (by kernel_rfl) ?hQ_8_2 ?hy_8_2 (by assumption) ?_
    case hi_8_2 => simp only [List.getElem?_toArray, List.getElem?_cons_zero, List.getElem?_cons_succ]; rfl
    case hf_8_2 => kernel_rfl
    case hQ_8_2 => exact fun _ _ _ h => h
    case hy_8_2 =>
      refine Or.inl ⟨by rfl, ?_⟩
      intro W hSw
      have x0 := (HX9.out W hSw).1
      have x1 := (HX9.out W hSw).2.1
      go_simp
      try with_reducible rfl
    try simp only [Act.put, List.setIfInBounds_toArray, List.set_cons_zero, List.set_cons_succ]
    refine wpAnyH_take (i := 9) (oi := ?oi_9_2) (v := ?_) ?hi_9_2 (by kernel_rfl) ?hf_9_2 (by kernel_rfl) ?hQ_9_2 ?hy_9_2 (by assumption) ?_
    case hi_9_2 => simp only [List.getElem?_toArray, List.getElem?_cons_zero, List.getElem?_cons_succ]; rfl
    case hf_9_2 => kernel_rfl
    case hQ_9_2 => exact fun _ _ _ h => h
    case hy_9_2 =>
      refine Or.inl ⟨by rfl, ?_⟩
      intro W hSw
      have x0 := (HX9.out W hSw).2.2.1
      have x1 := (HX9.out W hSw).2.2.2
      go_simp
      try with_reducible rfl
    try simp only [Act.put, List.setIfInBounds_toArray, List.set_cons_zero, List.set_cons_succ]
    refine wpAnyH_take (i := 12) (oi := ?oi_10_2) (v := ?_) ?hi_10_2 (by kernel_rfl) ?hf_10_2 (by kernel_rfl) ?hQ_10_2 ?hy_10_2 (by assumption) ?_
    case hi_10_2 => simp only [List.getElem?_toArray, List.getElem?_cons_zero, List.getElem?_cons_succ]; rfl
    case hf_10_2 => kernel_rfl
    case hQ_10_2 => exact fun _ _ _ h => h
    case hy_10_2 =>
      refine Or.inl ⟨by rfl, ?_⟩
      intro W hSw
      go_simp
      try with_reducible rfl
    try simp only [Act.put, List.setIfInBounds_toArray, List.set_cons_zero, List.set_cons_succ]
    refine wpAnyH_ready (rs := [8]) (by kernel_rfl) (by simp) ?_
    refine AllReadyH.cons (o := ?oi_11_2) ?hi_11_2 (fun K hK => ?_) AllReadyH.nil
    case hi_11_2 => simp only [List.getElem?_toArray, List.getElem?_cons_zero, List.getElem?_cons_succ]; rfl
    go_simp
    (go_at_call 17
     with_reducible refine (SP1.out _ HBwq.out).mono ?_
     rintro e wr ⟨rfl, hbn⟩
     have HBwr : Hid (Below W5.heap.size W5 wr) := Lib.hid (HBwq.out.trans (hbn.mono HBwq.out.size))
     clear hbn)
    refine hK.out _ _ HBwr.out (fun hHeld => ?_)
    clear hK K
    try simp only [Act.put, List.setIfInBounds_toArray, List.set_cons_zero, List.set_cons_succ]
    refine wpAnyH_ready (rs := [10]) (by kernel_rfl) (by simp) ?_
    refine AllReadyH.cons (o := ?oi_12_2) ?hi_12_2 (fun K hK => ?_) AllReadyH.nil
    case hi_12_2 => simp only [List.getElem?_toArray, List.getElem?_cons_zero, List.getElem?_cons_succ]; rfl
    go_simp
    (go_at_call 17
     with_reducible refine (SP2.out _ HBwr.out).mono ?_
     rintro e ws ⟨rfl, hbn⟩
     have HBws : Hid (Below W5.heap.size W5 ws) := Lib.hid (HBwr.out.trans (hbn.mono HBwr.out.size))
     clear hbn)
    refine hK.out _ _ HBws.out (fun hHeld => ?_)
    clear hK K
    try simp only [Act.put, List.setIfInBounds_toArray, List.set_cons_zero, List.set_cons_succ]
    refine wpAnyH_take (i := 11) (oi := ?oi_13_2) (v := ?_) ?hi_13_2 (by kernel_rfl) ?hf_13_2 (by kernel_rfl) ?hQ_13_2 ?hy_13_2 (by assumption) ?_
    case hi_13_2 => simp only [List.getElem?_toArray, List.getElem?_cons_zero, List.getElem?_cons_succ]; rfl
    case hf_13_2 => kernel_rfl
    case hQ_13_2 => exact fun _ _ _ h => h
    case hy_13_2 =>
      refine Or.inl ⟨by rfl, ?_⟩
      intro W hSw
      go_simp
      try with_reducible rfl
    try simp only [Act.put, List.setIfInBounds_toArray, List.set_cons_zero, List.set_cons_succ]
    refine wpAnyH_take (i := 13) (oi := ?oi_14_2) (v := ?_) ?hi_14_2 (by kernel_rfl) ?hf_14_2 (by kernel_rfl) ?hQ_14_2 ?hy_14_2 (by assumption) ?_
    case hi_14_2 => simp only [List.getElem?_toArray, List.getElem?_cons_zero, List.getElem?_cons_succ]; rfl
    case hf_14_2 => kernel_rfl
    case hQ_14_2 => exact fun _ _ _ h => h
    case hy_14_2 =>
      refine Or.inl ⟨by rfl, ?_⟩
      intro W hSw
      go_simp
      try with_reducible rfl
    try simp only [Act.put, List.setIfInBounds_toArray, List.set_cons_zero, List.set_cons_succ]
    refine wpAnyH_take (i := 14) (oi := ?oi_15_2) (v := ?_) ?hi_15_2 (by kernel_rfl) ?hf_15_2 (by kernel_rfl) ?hQ_15_2 ?hy_15_2 (by assumption) ?_
    case hi_15_2 => simp only [List.getElem?_toArray, List.getElem?_cons_zero, List.getElem?_cons_succ]; rfl
    case hf_15_2 => kernel_rfl
    case hQ_15_2 => exact fun _ _ _ h => h
    case hy_15_2 =>
      refine Or.inl ⟨by rfl, ?_⟩
      intro W hSw
      go_simp
      try with_reducible rfl
    try simp only [Act.put, List.setIfInBounds_toArray, List.set_cons_zero, List.set_cons_succ]
    refine wpAnyH_take (i := 15) (oi := ?oi_16_2) (v := ?_) ?hi_16_2 (by kernel_rfl) ?hf_16_2 (by kernel_rfl) ?hQ_16_2 ?hy_16_2 (by assumption) ?_
    case hi_16_2 => simp only [List.getElem?_toArray, List.getElem?_cons_zero, List.getElem?_cons_succ]; rfl
    case hf_16_2 => kernel_rfl
    case hQ_16_2 => exact fun _ _ _ h => h
    case hy_16_2 =>
      refine Or.inl ⟨by rfl, ?_⟩
      intro W hSw
      go_simp
      try with_reducible rfl
    try simp only [Act.put, List.setIfInBounds_toArray, List.set_cons_zero, List.set_cons_succ]
    refine wpAnyH_take (i := 16) (oi := ?oi_17_2) (v := ?_) ?hi_17_2 (by kernel_rfl) ?hf_17_2 (by kernel_rfl) ?hQ_17_2 ?hy_17_2 (by assumption) ?_
    case hi_17_2 => simp only [List.getElem?_toArray, List.getElem?_cons_zero, List.getElem?_cons_succ]; rfl
    case hf_17_2 => kernel_rfl
    case hQ_17_2 => exact fun _ _ _ h => h
    case hy_17_2 =>
      refine Or.inl ⟨by rfl, ?_⟩
      intro W hSw
      have x0 := (HX9.out W hSw).1
      have x1 := (HX9.out W hSw).2.1
      go_simp
      try with_reducible rfl
    try simp only [Act.put, List.setIfInBounds_toArray, List.set_cons_zero, List.set_cons_succ]
    refine wpAnyH_take (i := 17) (oi := ?oi_18_2) (v := ?_) ?hi_18_2 (by kernel_rfl) ?hf_18_2 (by kernel_rfl) ?hQ_18_2 ?hy_18_2 (by assumption) ?_
    case hi_18_2 => simp only [List.getElem?_toArray, List.getElem?_cons_zero, List.getElem?_cons_succ]; rfl
    case hf_18_2 => kernel_rfl
    case hQ_18_2 => exact fun _ _ _ h => h
    case hy_18_2 =>
      refine Or.inl ⟨by rfl, ?_⟩
      intro W hSw
      have x0 := (HX9.out W hSw).2.2.1
      have x1 := (HX9.out W hSw).2.2.2
      go_simp
      try with_reducible rfl
    try simp only [Act.put, List.setIfInBounds_toArray, List.set_cons_zero, List.set_cons_succ]
    refine wpAnyH_take (i := 19) (oi := ?oi_19_2) (v := ?_) ?hi_19_2 (by kernel_rfl) ?hf_19_2 (by kernel_rfl) ?hQ_19_2 ?hy_19_2 (by assumption) ?_
    case hi_19_2 => simp only [List.getElem?_toArray, List.getElem?_cons_zero, List.getElem?_cons_succ]; rfl
    case hf_19_2 => kernel_rfl
    case hQ_19_2 => exact fun _ _ _ h => h
    case hy_19_2 =>
      refine Or.inl ⟨by rfl, ?_⟩
      intro W hSw
      go_simp
      try with_reducible rfl
    try simp only [Act.put, List.setIfInBounds_toArray, List.set_cons_zero, List.set_cons_succ]
    refine wpAnyH_ready (rs := [18]) (by kernel_rfl) (by simp) ?_
    refine AllReadyH.cons (o := ?oi_20_2) ?hi_20_2 (fun K hK => ?_) AllReadyH.nil
    case hi_20_2 => simp only [List.getElem?_toArray, List.getElem?_cons_zero, List.getElem?_cons_succ]; rfl
    go_simp
    (go_at_call 20
     with_reducible refine (SS1.out _ HBws.out).mono ?_
     rintro e wt ⟨rfl, hbn⟩
     have HBwt : Hid (Below W5.heap.size W5 wt) := Lib.hid (HBws.out.trans (hbn.mono HBws.out.size))
     clear hbn)
    refine hK.out _ _ HBwt.out (fun hHeld => ?_)
    clear hK K
    try simp only [Act.put, List.setIfInBounds_toArray, List.set_cons_zero, List.set_cons_succ]
    refine wpAnyH_take (i := 20) (oi := ?oi_21_2) (v := ?_) ?hi_21_2 (by kernel_rfl) ?hf_21_2 (by kernel_rfl) ?hQ_21_2 ?hy_21_2 (by assumption) ?_
    case hi_21_2 => simp only [List.getElem?_toArray, List.getElem?_cons_zero, List.getElem?_cons_succ]; rfl
    case hf_21_2 => kernel_rfl
    case hQ_21_2 => exact fun _ _ _ h => h
    case hy_21_2 =>
      refine Or.inl ⟨by rfl, ?_⟩
      intro W hSw
      go_simp
      try with_reducible rfl
    try simp only [Act.put, List.setIfInBounds_toArray, List.set_cons_zero, List.set_cons_succ]
    refine wpAnyH_take (i := 21) (oi := ?oi_22_2) (v := ?_) ?hi_22_2 (by kernel_rfl) ?hf_22_2 (by kernel_rfl) ?hQ_22_2 ?hy_22_2 (by assumption) ?_
    case hi_22_2 => simp only [List.getElem?_toArray, List.getElem?_cons_zero, List.getElem?_cons_succ]; rfl
    case hf_22_2 => kernel_rfl
    case hQ_22_2 => exact fun _ _ _ h => h
    case hy_22_2 =>
      refine Or.inl ⟨by rfl, ?_⟩
      intro W hSw
      go_simp
      try with_reducible rfl
    try simp only [Act.put, List.setIfInBounds_toArray, List.set_cons_zero, List.set_cons_succ]
    refine wpAnyH_take (i := 22) (oi := ?oi_23_2) (v := ?_) ?hi_23_2 (by kernel_rfl) ?hf_23_2 (by kernel_rfl) ?hQ_23_2 ?hy_23_2 (by assumption) ?_
    case hi_23_2 => simp only [List.getElem?_toArray, List.getElem?_cons_zero, List.getElem?_cons_succ]; rfl
    case hf_23_2 => kernel_rfl
    case hQ_23_2 => exact fun _ _ _ h => h
    case hy_23_2 =>
      refine Or.inl ⟨by rfl, ?_⟩
      intro W hSw
      go_simp
      try with_reducible rfl
    try simp only [Act.put, List.setIfInBounds_toArray, List.set_cons_zero, List.set_cons_succ]
    refine wpAnyH_take (i := 23) (oi := ?oi_24_2) (v := ?_) ?hi_24_2 (by kernel_rfl) ?hf_24_2 (by kernel_rfl) ?hQ_24_2 ?hy_24_2 (by assumption) ?_
    case hi_24_2 => simp only [List.getElem?_toArray, List.getElem?_cons_zero, List.getElem?_cons_succ]; rfl
    case hf_24_2 => kernel_rfl
    case hQ_24_2 => exact fun _ _ _ h => h
    case hy_24_2 =>
      refine Or.inl ⟨by rfl, ?_⟩
      intro W hSw
      have x0 := (HX9.out W hSw).2.2.1
      have x1 := (HX9.out W hSw).2.2.2
      go_simp
      try with_reducible rfl
    try simp only [Act.put, List.setIfInBounds_toArray, List.set_cons_zero, List.set_cons_succ]
    refine wpAnyH_take (i := 24) (oi := ?oi_25_2) (v := ?_) ?hi_25_2 (by kernel_rfl) ?hf_25_2 (by kernel_rfl) ?hQ_25_2 ?hy_25_2 (by assumption) ?_
    case hi_25_2 => simp only [List.getElem?_toArray, List.getElem?_cons_zero, List.getElem?_cons_succ]; rfl
    case hf_25_2 => kernel_rfl
    case hQ_25_2 => exact fun _ _ _ h => h
    case hy_25_2 =>
      refine Or.inl ⟨by rfl, ?_⟩
      intro W hSw
      have x0 := (HX9.out W hSw).1
      have x1 := (HX9.out W hSw).2.1
      go_simp
      try with_reducible rfl
    try simp only [Act.put, List.setIfInBounds_toArray, List.set_cons_zero, List.set_cons_succ]
    refine wpAnyH_take (i := 26) (oi := ?oi_26_2) (v := ?_) ?hi_26_2 (by kernel_rfl) ?hf_26_2 (by kernel_rfl) ?hQ_26_2 ?hy_26_2 (by assumption) ?_
    case hi_26_2 => simp only [List.getElem?_toArray, List.getElem?_cons_zero, List.getElem?_cons_succ]; rfl
    case hf_26_2 => kernel_rfl
    case hQ_26_2 => exact fun _ _ _ h => h
    case hy_26_2 =>
      refine Or.inl ⟨by rfl, ?_⟩
      intro W hSw
      go_simp
      try with_reducible rfl
    try simp only [Act.put, List.setIfInBounds_toArray, List.set_cons_zero, List.set_cons_succ]
    refine wpAnyH_ready (rs := [25]) (by kernel_rfl) (by simp) ?_
    refine AllReadyH.cons (o := ?oi_27_2) ?hi_27_2 (fun K hK => ?_) AllReadyH.nil
    case hi_27_2 => simp only [List.getElem?_toArray, List.getElem?_cons_zero, List.getElem?_cons_succ]; rfl
    go_simp
    (go_at_call 20
     with_reducible refine (SS2.out _ HBwt.out).mono ?_
     rintro e wu ⟨rfl, hbn⟩
     have HBwu : Hid (Below W5.heap.size W5 wu) := Lib.hid (HBwt.out.trans (hbn.mono HBwt.out.size))
     clear hbn)
    refine hK.out _ _ HBwu.out (fun hHeld => ?_)
    clear hK K
    try simp only [Act.put, List.setIfInBounds_toArray, List.set_cons_zero, List.set_cons_succ]
    refine wpAnyH_take (i := 27) (oi := ?oi_28_2) (v := ?_) ?hi_28_2 (by kernel_rfl) ?hf_28_2 (by kernel_rfl) ?hQ_28_2 ?hy_28_2 (by assumption) ?_
    case hi_28_2 => simp only [List.getElem?_toArray, List.getElem?_cons_zero, List.getElem?_cons_succ]; rfl
    case hf_28_2 => kernel_rfl
    case hQ_28_2 => exact fun _ _ _ h => h
    case hy_28_2 =>
      refine Or.inl ⟨by rfl, ?_⟩
      intro W hSw
      go_simp
      try with_reducible rfl
    try simp only [Act.put, List.setIfInBounds_toArray, List.set_cons_zero, List.set_cons_succ]
    refine wpAnyH_take (i := 28) (oi := ?oi_29_2) (v := ?_) ?hi_29_2 (by kernel_rfl) ?hf_29_2 (by kernel_rfl) ?hQ_29_2 ?hy_29_2 (by assumption) ?_
    case hi_29_2 => simp only [List.getElem?_toArray, List.getElem?_cons_zero, List.getElem?_cons_succ]; rfl
    case hf_29_2 => kernel_rfl
    case hQ_29_2 => exact fun _ _ _ h => h
    case hy_29_2 =>
      refine Or.inl ⟨by rfl, ?_⟩
      intro W hSw
      go_simp
      try with_reducible rfl
    try simp only [Act.put, List.setIfInBounds_toArray, List.set_cons_zero, List.set_cons_succ]
    refine wpAnyH_take (i := 29) (oi := ?oi_30_2) (v := ?_) ?hi_30_2 (by kernel_rfl) ?hf_30_2 (by kernel_rfl) ?hQ_30_2 ?hy_30_2 (by assumption) ?_
    case hi_30_2 => simp only [List.getElem?_toArray, List.getElem?_cons_zero, List.getElem?_cons_succ]; rfl
    case hf_30_2 => kernel_rfl
    case hQ_30_2 => exact fun _ _ _ h => h
    case hy_30_2 =>
      refine Or.inl ⟨by rfl, ?_⟩
      intro W hSw
      go_simp
      try with_reducible rfl
    try simp only [Act.put, List.setIfInBounds_toArray, List.set_cons_zero, List.set_cons_succ]
    refine wpAnyH_done (by kernel_rfl) ?_ _
    clear hHeld
    go_wp2
    go_ret
    exact ⟨by simp, HB5.out.trans (HBwu.out.mono HB5.out.size)⟩
  ·
    have HD5 : Hid (Below W5.heap.size W5 W5.drew) := Lib.hid (bdD (Below.refl _ _))
    refine wp_region_held_drew (S := (fun W => Below W5.heap.size W5 W)) (by kernel_rfl) HD5.out (fun hHeld => ?_)
    refine wpAnyH_take (i := 0) (oi := ?oi_1_3) (v := ?_) ?hi_1_3 (by kernel_rfl) ?hf_1_3 (by kernel_rfl) ?hQ_1_3 ?hy_1_3 (by assumption) ?_
    case hi_1_3 => simp only [List.getElem?_toArray, List.getElem?_cons_zero, List.getElem?_cons_succ]; rfl
    case hf_1_3 => kernel_rfl
    case hQ_1_3 => exact fun _ _ _ h => h
    case hy_1_3 =>
      refine Or.inl ⟨by rfl, ?_⟩
      intro W hSw
      have x0 := (HX9.out W hSw).1
      have x1 := (HX9.out W hSw).2.1
      go_simp
      try with_reducible rfl
    try simp only [Act.put, List.setIfInBounds_toArray, List.set_cons_zero, List.set_cons_succ]
    refine wpAnyH_ready (rs := [1]) (by kernel_rfl) (by simp) ?_
    refine AllReadyH.cons (o := ?oi_2_3) ?hi_2_3 (fun K hK => ?_) AllReadyH.nil
    case hi_2_3 => simp only [List.getElem?_toArray, List.getElem?_cons_zero, List.getElem?_cons_succ]; rfl
    go_simp
    (go_at_call 18
     with_reducible refine (SR1.out _ HD5.out).mono ?_
     rintro e wp ⟨rfl, hbn⟩
     have HBwp : Hid (Below W5.heap.size W5 wp) := Lib.hid (HD5.out.trans (hbn.mono HD5.out.size))
     clear hbn)
    refine hK.out _ _ HBwp.out (fun hHeld => ?_)
    clear hK K
    try simp only [Act.put, List.setIfInBounds_toArray, List.set_cons_zero, List.set_cons_succ]
    refine wpAnyH_take (i := 2) (oi := ?oi_3_3) (v := ?_) ?hi_3_3 (by kernel_rfl) ?hf_3_3 (by kernel_rfl) ?hQ_3_3 ?hy_3_3 (by assumption) ?_
    case hi_3_3 => simp only [List.getElem?_toArray, List.getElem?_cons_zero, List.getElem?_cons_succ]; rfl
    case hf_3_3 => kernel_rfl
    case hQ_3_3 => exact fun _ _ _ h => h
    case hy_3_3 =>
      refine Or.inl ⟨by rfl, ?_⟩
      intro W hSw
      go_simp
      try with_reducible rfl
    try simp only [Act.put, List.setIfInBounds_toArray, List.set_cons_zero, List.set_cons_succ]
    refine wpAnyH_take (i := 3) (oi := ?oi_4_3) (v := ?_) ?hi_4_3 (by kernel_rfl) ?hf_4_3 (by kernel_rfl) ?hQ_4_3 ?hy_4_3 (by assumption) ?_
    case hi_4_3 => simp only [List.getElem?_toArray, List.getElem?_cons_zero, List.getElem?_cons_succ]; rfl
    case hf_4_3 => kernel_rfl
    case hQ_4_3 => exact fun _ _ _ h => h
    case hy_4_3 =>
      refine Or.inl ⟨by rfl, ?_⟩
      intro W hSw
      have x0 := (HX9.out W hSw).2.2.1
      have x1 := (HX9.out W hSw).2.2.2
      go_simp
      try with_reducible rfl
    try simp only [Act.put, List.setIfInBounds_toArray, List.set_cons_zero, List.set_cons_succ]
    refine wpAnyH_ready (rs := [4]) (by kernel_rfl) (by simp) ?_
    refine AllReadyH.cons (o := ?oi_5_3) ?hi_5_3 (fun K hK => ?_) AllReadyH.nil
    case hi_5_3 => simp only [List.getElem?_toArray, List.getElem?_cons_zero, List.getElem?_cons_succ]; rfl
    go_simp
    (go_at_call 18
     with_reducible refine (SR2.out _ HBwp.out).mono ?_
     rintro e wq ⟨rfl, hbn⟩
     have HBwq : Hid (Below W5.heap.size W5 wq) := Lib.hid (HBwp.out.trans (hbn.mono HBwp.out.size))
     clear hbn)
    refine hK.out _ _ HBwq.out (fun hHeld => ?_)
    clear hK K
    try simp only [Act.put, List.setIfInBounds_toArray, List.set_cons_zero, List.set_cons_succ]
    refine wpAnyH_take (i := 5) (oi := ?oi_6_3) (v := ?_) ?hi_6_3 (by kernel_rfl) ?hf_6_3 (by kernel_rfl) ?hQ_6_3 ?hy_6_3 (by assumption) ?_
    case hi_6_3 => simp only [List.getElem?_toArray, List.getElem?_cons_zero, List.getElem?_cons_succ]; rfl
    case hf_6_3 => kernel_rfl
    case hQ_6_3 => exact fun _ _ _ h => h
    case hy_6_3 =>
      refine Or.inl ⟨by rfl, ?_⟩
      intro W hSw
      go_simp
      try with_reducible rfl
    try simp only [Act.put, List.setIfInBounds_toArray, List.set_cons_zero, List.set_cons_succ]
    refine wpAnyH_take (i := 6) (oi := ?oi_7_3) (v := ?_) ?hi_7_3 (by kernel_rfl) ?hf_7_3 (by kernel_rfl) ?hQ_7_3 ?hy_7_3 (by assumption) ?_
    case hi_7_3 => simp only [List.getElem?_toArray, List.getElem?_cons_zero, List.getElem?_cons_succ]; rfl
    case hf_7_3 => kernel_rfl
    case hQ_7_3 => exact fun _ _ _ h => h
    case hy_7_3 =>
      refine Or.inl ⟨by rfl, ?_⟩
      intro W hSw
      go_simp
      try with_reducible rfl
    try simp only [Act.put, List.setIfInBounds_toArray, List.set_cons_zero, List.set_cons_succ]
    refine wpAnyH_take (i := 7) (oi := ?oi_8_3) (v := ?_) ?hi_8_3 (by kernel_rfl) ?hf_8_3 (by kernel_rfl) ?hQ_8_3 ?hy_8_3 (by assumption) ?_
    case hi_8_3 => simp only [List.getElem?_toArray, List.getElem?_cons_zero, List.getElem?_cons_succ]; rfl
    case hf_8_3 => kernel_rfl
    case hQ_8_3 => exact fun _ _ _ h => h
    case hy_8_3 =>
      refine Or.inl ⟨by rfl, ?_⟩
      intro W hSw
      have x0 := (HX9.out W hSw).1
      have x1 := (HX9.out W hSw).2.1
      go_simp
      try with_reducible rfl
    try simp only [Act.put, List.setIfInBounds_toArray, List.set_cons_zero, List.set_cons_succ]
    refine wpAnyH_take (i := 9) (oi := ?oi_9_3) (v := ?_) ?hi_9_3 (by kernel_rfl) ?hf_9_3 (by kernel_rfl) ?hQ_9_3 ?hy_9_3 (by assumption) ?_
    case hi_9_3 => simp only [List.getElem?_toArray, List.getElem?_cons_zero, List.getElem?_cons_succ]; rfl
    case hf_9_3 => kernel_rfl
    case hQ_9_3 => exact fun _ _ _ h => h
    case hy_9_3 =>
      refine Or.inl ⟨by rfl, ?_⟩
      intro W hSw
      have x0 := (HX9.out W hSw).2.2.1
      have x1 := (HX9.out W hSw).2.2.2
      go_simp
      try with_reducible rfl
    try simp only [Act.put, List.setIfInBounds_toArray, List.set_cons_zero, List.set_cons_succ]
    refine wpAnyH_take (i := 12) (oi := ?oi_10_3) (v := ?_) ?hi_10_3 (by kernel_rfl) ?hf_10_3 (by kernel_rfl) ?hQ_10_3 ?hy_10_3 (by assumption) ?_
    case hi_10_3 => simp only [List.getElem?_toArray, List.getElem?_cons_zero, List.getElem?_cons_succ]; rfl
    case hf_10_3 => kernel_rfl
    case hQ_10_3 => exact fun _ _ _ h => h
    case hy_10_3 =>
      refine Or.inl ⟨by rfl, ?_⟩
      intro W hSw
      go_simp
      try with_reducible rfl
    try simp only [Act.put, List.setIfInBounds_toArray, List.set_cons_zero, List.set_cons_succ]
    refine wpAnyH_ready (rs := [8]) (by kernel_rfl) (by simp) ?_
    refine AllReadyH.cons (o := ?oi_11_3) ?hi_11_3 (fun K hK => ?_) AllReadyH.nil
    case hi_11_3 => simp only [List.getElem?_toArray, List.getElem?_cons_zero, List.getElem?_cons_succ]; rfl
    go_simp
    (go_at_call 17
     with_reducible refine (SP1.out _ HBwq.out).mono ?_
     rintro e wr ⟨rfl, hbn⟩
     have HBwr : Hid (Below W5.heap.size W5 wr) := Lib.hid (HBwq.out.trans (hbn.mono HBwq.out.size))
     clear hbn)
    refine hK.out _ _ HBwr.out (fun hHeld => ?_)
    clear hK K
    try simp only [Act.put, List.setIfInBounds_toArray, List.set_cons_zero, List.set_cons_succ]
    refine wpAnyH_ready (rs := [10]) (by kernel_rfl) (by simp) ?_
    refine AllReadyH.cons (o := ?oi_12_3) ?hi_12_3 (fun K hK => ?_) AllReadyH.nil
    case hi_12_3 => simp only [List.getElem?_toArray, List.getElem?_cons_zero, List.getElem?_cons_succ]; rfl
    go_simp
    (go_at_call 17
     with_reducible refine (SP2.out _ HBwr.out).mono ?_
     rintro e ws ⟨rfl, hbn⟩
     have HBws : Hid (Below W5.heap.size W5 ws) := Lib.hid (HBwr.out.trans (hbn.mono HBwr.out.size))
     clear hbn)
    refine hK.out _ _ HBws.out (fun hHeld => ?_)
    clear hK K
    try simp only [Act.put, List.setIfInBounds_toArray, List.set_cons_zero, List.set_cons_succ]
    refine wpAnyH_take (i := 11) (oi := ?oi_13_3) (v := ?_) ?hi_13_3 (by kernel_rfl) ?hf_13_3 (by kernel_rfl) ?hQ_13_3 ?hy_13_3 (by assumption) ?_
    case hi_13_3 => simp only [List.getElem?_toArray, List.getElem?_cons_zero, List.getElem?_cons_succ]; rfl
    case hf_13_3 => kernel_rfl
    case hQ_13_3 => exact fun _ _ _ h => h
    case hy_13_3 =>
      refine Or.inl ⟨by rfl, ?_⟩
      intro W hSw
      go_simp
      try with_reducible rfl
    try simp only [Act.put, List.setIfInBounds_toArray, List.set_cons_zero, List.set_cons_succ]
    refine wpAnyH_take (i := 13) (oi := ?oi_14_3) (v := ?_) ?hi_14_3 (by kernel_rfl) ?hf_14_3 (by kernel_rfl) ?hQ_14_3 ?hy_14_3 (by assumption) ?_
    case hi_14_3 => simp only [List.getElem?_toArray, List.getElem?_cons_zero, List.getElem?_cons_succ]; rfl
    case hf_14_3 => kernel_rfl
    case hQ_14_3 => exact fun _ _ _ h => h
    case hy_14_3 =>
      refine Or.inl ⟨by rfl, ?_⟩
      intro W hSw
      go_simp
      try with_reducible rfl
    try simp only [Act.put, List.setIfInBounds_toArray, List.set_cons_zero, List.set_cons_succ]
    refine wpAnyH_take (i := 14) (oi := ?oi_15_3) (v := ?_) ?hi_15_3 (by kernel_rfl) ?hf_15_3 (by kernel_rfl) ?hQ_15_3 ?hy_15_3 (by assumption) ?_
    case hi_15_3 => simp only [List.getElem?_toArray, List.getElem?_cons_zero, List.getElem?_cons_succ]; rfl
    case hf_15_3 => kernel_rfl
    case hQ_15_3 => exact fun _ _ _ h => h
    case hy_15_3 =>
      refine Or.inl ⟨by rfl, ?_⟩
      intro W hSw
      go_simp
      try with_reducible rfl
    try simp only [Act.put, List.setIfInBounds_toArray, List.set_cons_zero, List.set_cons_succ]
    refine wpAnyH_take (i := 15) (oi := ?oi_16_3) (v := ?_) ?hi_16_3 (by kernel_rfl) ?hf_16_3 (by kernel_rfl) ?hQ_16_3 ?hy_16_3 (by assumption) ?_
    case hi_16_3 => simp only [List.getElem?_toArray, List.getElem?_cons_zero, List.getElem?_cons_succ]; rfl
    case hf_16_3 => kernel_rfl
    case hQ_16_3 => exact fun _ _ _ h => h
    case hy_16_3 =>
      refine Or.inl ⟨by rfl, ?_⟩
      intro W hSw
      go_simp
      try with_reducible rfl
    try simp only [Act.put, List.setIfInBounds_toArray, List.set_cons_zero, List.set_cons_succ]
    refine wpAnyH_take (i := 16) (oi := ?oi_17_3) (v := ?_) ?hi_17_3 (by kernel_rfl) ?hf_17_3 (by kernel_rfl) ?hQ_17_3 ?hy_17_3 (by assumption) ?_
    case hi_17_3 => simp only [List.getElem?_toArray, List.getElem?_cons_zero, List.getElem?_cons_succ]; rfl
    case hf_17_3 => kernel_rfl
    case hQ_17_3 => exact fun _ _ _ h => h
    case hy_17_3 =>
      refine Or.inl ⟨by rfl, ?_⟩
      intro W hSw
      have x0 := (HX9.out W hSw).1
      have x1 := (HX9.out W hSw).2.1
      go_simp
      try with_reducible rfl
    try simp only [Act.put, List.setIfInBounds_toArray, List.set_cons_zero, List.set_cons_succ]
    refine wpAnyH_take (i := 17) (oi := ?oi_18_3) (v := ?_) ?hi_18_3 (by kernel_rfl) ?hf_18_3 (by kernel_rfl) ?hQ_18_3 ?hy_18_3 (by assumption) ?_
    case hi_18_3 => simp only [List.getElem?_toArray, List.getElem?_cons_zero, List.getElem?_cons_succ]; rfl
    case hf_18_3 => kernel_rfl
    case hQ_18_3 => exact fun _ _ _ h => h
    case hy_18_3 =>
      refine Or.inl ⟨by rfl, ?_⟩
      intro W hSw
      have x0 := (HX9.out W hSw).2.2.1
      have x1 := (HX9.out W hSw).2.2.2
      go_simp
      try with_reducible rfl
    try simp only [Act.put, List.setIfInBounds_toArray, List.set_cons_zero, List.set_cons_succ]
    refine wpAnyH_take (i := 19) (oi := ?oi_19_3) (v := ?_) ?hi_19_3 (by kernel_rfl) ?hf_19_3 (by kernel_rfl) ?hQ_19_3 ?hy_19_3 (by assumption) ?_
    case hi_19_3 => simp only [List.getElem?_toArray, List.getElem?_cons_zero, List.getElem?_cons_succ]; rfl
    case hf_19_3 => kernel_rfl
    case hQ_19_3 => exact fun _ _ _ h => h
    case hy_19_3 =>
      refine Or.inl ⟨by rfl, ?_⟩
      intro W hSw
      go_simp
      try with_reducible rfl
    try simp only [Act.put, List.setIfInBounds_toArray, List.set_cons_zero, List.set_cons_succ]
    refine wpAnyH_ready (rs := [18]) (by kernel_rfl) (by simp) ?_
    refine AllReadyH.cons (o := ?oi_20_3) ?hi_20_3 (fun K hK => ?_) AllReadyH.nil
    case hi_20_3 => simp only [List.getElem?_toArray, List.getElem?_cons_zero, List.getElem?_cons_succ]; rfl
    go_simp
    (go_at_call 20
     with_reducible refine (SS1.out _ HBws.out).mono ?_
     rintro e wt ⟨rfl, hbn⟩
     have HBwt : Hid (Below W5.heap.size W5 wt) := Lib.hid (HBws.out.trans (hbn.mono HBws.out.size))
     clear hbn)
    refine hK.out _ _ HBwt.out (fun hHeld => ?_)
    clear hK K
    try simp only [Act.put, List.setIfInBounds_toArray, List.set_cons_zero, List.set_cons_succ]
    refine wpAnyH_take (i := 20) (oi := ?oi_21_3) (v := ?_) ?hi_21_3 (by kernel_rfl) ?hf_21_3 (by kernel_rfl) ?hQ_21_3 ?hy_21_3 (by assumption) ?_
    case hi_21_3 => simp only [List.getElem?_toArray, List.getElem?_cons_zero, List.getElem?_cons_succ]; rfl
    case hf_21_3 => kernel_rfl
    case hQ_21_3 => exact fun _ _ _ h => h
    case hy_21_3 =>
      refine Or.inl ⟨by rfl, ?_⟩
      intro W hSw
      go_simp
      try with_reducible rfl
    try simp only [Act.put, List.setIfInBounds_toArray, List.set_cons_zero, List.set_cons_succ]
    refine wpAnyH_take (i := 21) (oi := ?oi_22_3) (v := ?_) ?hi_22_3 (by kernel_rfl) ?hf_22_3 (by kernel_rfl) ?hQ_22_3 ?hy_22_3 (by assumption) ?_
    case hi_22_3 => simp only [List.getElem?_toArray, List.getElem?_cons_zero, List.getElem?_cons_succ]; rfl
    case hf_22_3 => kernel_rfl
    case hQ_22_3 => exact fun _ _ _ h => h
    case hy_22_3 =>
      refine Or.inl ⟨by rfl, ?_⟩
      intro W hSw
      go_simp
      try with_reducible rfl
    try simp only [Act.put, List.setIfInBounds_toArray, List.set_cons_zero, List.set_cons_succ]
    refine wpAnyH_take (i := 22) (oi := ?oi_23_3) (v := ?_) ?hi_23_3 (by kernel_rfl) ?hf_23_3 (by kernel_rfl) ?hQ_23_3 ?hy_23_3 (by assumption) ?_
    case hi_23_3 => simp only [List.getElem?_toArray, List.getElem?_cons_zero, List.getElem?_cons_succ]; rfl
    case hf_23_3 => kernel_rfl
    case hQ_23_3 => exact fun _ _ _ h => h
    case hy_23_3 =>
      refine Or.inl ⟨by rfl, ?_⟩
      intro W hSw
      go_simp
      try with_reducible rfl
    try simp only [Act.put, List.setIfInBounds_toArray, List.set_cons_zero, List.set_cons_succ]
    refine wpAnyH_take (i := 23) (oi := ?oi_24_3) (v := ?_) ?hi_24_3 (by kernel_rfl) ?hf_24_3 (by kernel_rfl) ?hQ_24_3 ?hy_24_3 (by assumption) ?_
    case hi_24_3 => simp only [List.getElem?_toArray, List.getElem?_cons_zero, List.getElem?_cons_succ]; rfl
    case hf_24_3 => kernel_rfl
    case hQ_24_3 => exact fun _ _ _ h => h
    case hy_24_3 =>
      refine Or.inl ⟨by rfl, ?_⟩
      intro W hSw
      have x0 := (HX9.out W hSw).2.2.1
      have x1 := (HX9.out W hSw).2.2.2
      go_simp
      try with_reducible rfl
    try simp only [Act.put, List.setIfInBounds_toArray, List.set_cons_zero, List.set_cons_succ]
    refine wpAnyH_take (i := 24) (oi := ?oi_25_3) (v := ?_) ?hi_25_3 (by kernel_rfl) ?hf_25_3 (by kernel_rfl) ?hQ_25_3 ?hy_25_3 (by assumption) ?_
    case hi_25_3 => simp only [List.getElem?_toArray, List.getElem?_cons_zero, List.getElem?_cons_succ]; rfl
    case hf_25_3 => kernel_rfl
    case hQ_25_3 => exact fun _ _ _ h => h
    case hy_25_3 =>
      refine Or.inl ⟨by rfl, ?_⟩
      intro W hSw
      have x0 := (HX9.out W hSw).1
      have x1 := (HX9.out W hSw).2.1
      go_simp
      try with_reducible rfl
    try simp only [Act.put, List.setIfInBounds_toArray, List.set_cons_zero, List.set_cons_succ]
    refine wpAnyH_take (i := 26) (oi := ?oi_26_3) (v := ?_) ?hi_26_3 (by kernel_rfl) ?hf_26_3 (by kernel_rfl) ?hQ_26_3 ?hy_26_3 (by assumption) ?_
    case hi_26_3 => simp only [List.getElem?_toArray, List.getElem?_cons_zero, List.getElem?_cons_succ]; rfl
    case hf_26_3 => kernel_rfl
    case hQ_26_3 => exact fun _ _ _ h => h
    case hy_26_3 =>
      refine Or.inl ⟨by rfl, ?_⟩
      intro W hSw
      go_simp
      try with_reducible rfl
    try simp only [Act.put, List.setIfInBounds_toArray, List.set_cons_zero, List.set_cons_succ]
    refine wpAnyH_ready (rs := [25]) (by kernel_rfl) (by simp) ?_
    refine AllReadyH.cons (o := ?oi_27_3) ?hi_27_3 (fun K hK => ?_) AllReadyH.nil
    case hi_27_3 => simp only [List.getElem?_toArray, List.getElem?_cons_zero, List.getElem?_cons_succ]; rfl
    go_simp
    (go_at_call 20
     with_reducible refine (SS2.out _ HBwt.out).mono ?_
     rintro e wu ⟨rfl, hbn⟩
     have HBwu : Hid (Below W5.heap.size W5 wu) := Lib.hid (HBwt.out.trans (hbn.mono HBwt.out.size))
     clear hbn)
    refine hK.out _ _ HBwu.out (fun hHeld => ?_)
    clear hK K
    try simp only [Act.put, List.setIfInBounds_toArray, List.set_cons_zero, List.set_cons_succ]
    refine wpAnyH_take (i := 27) (oi := ?oi_28_3) (v := ?_) ?hi_28_3 (by kernel_rfl) ?hf_28_3 (by kernel_rfl) ?hQ_28_3 ?hy_28_3 (by assumption) ?_
    case hi_28_3 => simp only [List.getElem?_toArray, List.getElem?_cons_zero, List.getElem?_cons_succ]; rfl
    case hf_28_3 => kernel_rfl
    case hQ_28_3 => exact fun _ _ _ h => h
    case hy_28_3 =>
      refine Or.inl ⟨by rfl, ?_⟩
      intro W hSw
      go_simp
      try with_reducible rfl
    try simp only [Act.put, List.setIfInBounds_toArray, List.set_cons_zero, List.set_cons_succ]
    refine wpAnyH_take (i := 28) (oi := ?oi_29_3) (v := ?_) ?hi_29_3 (by kernel_rfl) ?hf_29_3 (by kernel_rfl) ?hQ_29_3 ?hy_29_3 (by assumption) ?_
    case hi_29_3 => simp only [List.getElem?_toArray, List.getElem?_cons_zero, List.getElem?_cons_succ]; rfl
    case hf_29_3 => kernel_rfl
    case hQ_29_3 => exact fun _ _ _ h => h
    case hy_29_3 =>
      refine Or.inl ⟨by rfl, ?_⟩
      intro W hSw
      go_simp
      try with_reducible rfl
    try simp only [Act.put, List.setIfInBounds_toArray, List.set_cons_zero, List.set_cons_succ]
    refine wpAnyH_take (i := 29) (oi := ?oi_30_3) (v := ?_) ?hi_30_3 (by kernel_rfl) ?hf_30_3 (by kernel_rfl) ?hQ_30_3 ?hy_30_3 (by assumption) ?_
    case hi_30_3 => simp only [List.getElem?_toArray, List.getElem?_cons_zero, List.getElem?_cons_succ]; rfl
    case hf_30_3 => kernel_rfl
    case hQ_30_3 => exact fun _ _ _ h => h
    case hy_30_3 =>
      refine Or.inl ⟨by rfl, ?_⟩
      intro W hSw
      go_simp
      try with_reducible rfl
    try simp only [Act.put, List.setIfInBounds_toArray, List.set_cons_zero, List.set_cons_succ]
    refine wpAnyH_done (by kernel_rfl) ?_ _
    clear hHeld
    go_wp2
    go_ret
    exact ⟨by simp, HB5.out.trans (HBwu.out.mono HB5.out.size)⟩
theorem sgT_beq (l r l' r' : List Nat) (h1 : okL l = true) (h2 : okL r = true) (h3 : okL l' = true) (h4 : okL r' = true) :
    ((⟨(sgT l r).toArray⟩ : ByteArray).toList == (⟨(sgT l' r').toArray⟩ : ByteArray).toList) = (decide (l = l') && decide (r = r')) := by
  rw [Lib.toList_data, Lib.toList_data, Bool.eq_iff_iff]
  simp only [beq_iff_eq, Bool.and_eq_true, decide_eq_true_eq]
  exact ⟨fun h => sgT_inj h1 h2 h h3 h4, fun ⟨e1, e2⟩ => by rw [e1, e2]⟩
theorem typesApart_walk (A0 : Option Addr) (n0 c0 : Nat) (l0 : List Nat) (A1 : Option Addr) (n1 c1 : Nat) (l1 : List Nat) (A2 : Option Addr) (n2 c2 : Nat) (l2 : List Nat) (A3 : Option Addr) (n3 c3 : Nat) (l3 : List Nat) (w : World)
    (y0 : Byt w A0 n0 c0 l0) (y1 : Byt w A1 n1 c1 l1) (y2 : Byt w A2 n2 c2 l2) (y3 : Byt w A3 n3 c3 l3) (hM : Mx w) :
    Calls Tryd.prog 7 #[.slice A0 n0 c0, .slice A1 n1 c1, .slice A2 n2 c2, .slice A3 n3 c3] w fun e w' => e = .returned (.bool true) ∧ Below w.heap.size w w' := by
  by_cases h : 30 < n0 ∨ 30 < n1 ∨ 30 < n2 ∨ 30 < n3
  · exact apart_long A0 A1 A2 A3 n0 n1 n2 n3 c0 c1 c2 c3 w hM h
  · by_cases hk : (okL l0 && okL l1 && okL l2 && okL l3) = true
    · simp only [Bool.and_eq_true] at hk
      obtain ⟨⟨⟨q0, q1⟩, q2⟩, q3⟩ := hk
      exact apart_right A0 A1 A2 A3 n0 n1 n2 n3 c0 c1 c2 c3 l0 l1 l2 l3 _ _ _ _ w hM (by omega) (by omega) (by omega) (by omega) y0 y1 y2 y3 q0 q1 q2 q3 rfl rfl rfl rfl (sgT_beq l0 l1 l2 l3 q0 q1 q2 q3)
    · exact apart_wrong A0 A1 A2 A3 n0 n1 n2 n3 c0 c1 c2 c3 l0 l1 l2 l3 w hM (by omega) (by omega) (by omega) (by omega) y0 y1 y2 y3 (Bool.eq_false_iff.2 hk)

set_option maxRecDepth 100000 in
theorem typesApart_lifted (os : Os) (started : os.Started) (H : Type) (enc : TypeId × Value → H) :
    ReturnsInHanded {} Tryd.checked os 7 .any (fun w args => (Rows.typesApartSpec.pre enc Tryd.prog Tryd.f7 [] false w args ∧ laidMetH Tryd.prog laidY w) ∧ sizedMet enc Tryd.prog Tryd.f7 (OpenSpec.ofChange Rows.typesApartSpec) false w args) (Rows.typesApartSpec.post enc Tryd.prog Tryd.f7 false true false false) := by
  refine returnsInHanded_of_change_and_sh (C := Tryd.checked) (X := fun w _ => laidMetH Tryd.prog laidY w) (fun _ _ _ hh h => h.of_heap hh) Tryd.own started (by kernel_rfl) Tryd.func7
    (ChangeSpec.witness_shaped (enc := enc) (C := Tryd.checked) (os := os) (X := fun w _ => laidMetH Tryd.prog laidY w) false (World.laidAll Tryd.prog os laidY) #[.slice none 0 0, .slice none 0 0, .slice none 0 0, .slice none 0 0] 8 (World.laidAll_os _ _ _) (World.shaped_of_ZipB (by kernel_rfl) (by kernel_rfl)) (by kernel_rfl) (by kernel_rfl) (by kernel_rfl) (laidY_met os _)) ?_
  intro W base args ds gs before hval0 hW _ _ hL hsh _
  have hval : ∀ (j : Nat) t v, Tryd.f7.params[j]? = some t → args[j]? = some v → Value.okWide Tryd.prog W .any base t v := hval0
  have hW' := hW
  obtain ⟨p, q, hA0, hV, rfl, hfz, hnd⟩ := hW
  have hA : DataW.TrodAll enc Tryd.prog W 0 (fun _ => true) true Tryd.f7.params.toList args.toList ds p := hA0
  rw [Tryd.params7] at hA hval
  obtain ⟨v0, vs0, d0, ds0, p0, q0, hargs, rfl, rfl, h0, r0⟩ := trodAll_cons hA
  obtain ⟨v1, vs1, d1, ds1, p1, q1, rfl, rfl, rfl, h1, r1⟩ := trodAll_cons r0
  obtain ⟨v2, vs2, d2, ds2, p2, q2, rfl, rfl, rfl, h2, r2⟩ := trodAll_cons r1
  obtain ⟨v3, vs3, d3, ds3, p3, q3, rfl, rfl, rfl, h3, r3⟩ := trodAll_cons r2
  obtain ⟨rfl, rfl, rfl⟩ := trodAll_nil r3
  obtain rfl : args = #[v0, v1, v2, v3] := by cases args; simp_all
  obtain ⟨rfl, rfl⟩ := trodVars_none hV
  obtain ⟨a0, len0, cap0, rfl⟩ := okWide_slice Tryd.underlying22 (hval 0 22 v0 rfl rfl)
  have k0 := h0
  have lt0 : ∀ x ∈ p0, x.block < W.heap.size := by obtain ⟨m, hm⟩ := k0; exact DataW.trod_lt m _ _ _ hm
  obtain ⟨z0, w0⟩ : ∃ zs, IsRow .u8 W a0 len0 cap0 zs := by
    obtain ⟨fuel, hf⟩ := h0
    rcases open_ints Tryd.underlying22 Tryd.underlying5 (by kernel_rfl) hf with ⟨hcs, _⟩ | ⟨x, l, c, zs, hcs, _, hl, hm, hz, _, hcell, hwz⟩
    · simp [Value.cells] at hcs
      obtain ⟨rfl, rfl, rfl⟩ := hcs
      exact ⟨[], .inl ⟨rfl, rfl, rfl, rfl⟩⟩
    · simp [Value.cells] at hcs
      obtain ⟨rfl, rfl, rfl⟩ := hcs
      exact ⟨zs, .inr ⟨_, rfl, hl, hm, by simpa using hz, hcell, hwz⟩⟩
  obtain ⟨b0, w0⟩ := byt_of_row w0
  obtain ⟨a1, len1, cap1, rfl⟩ := okWide_slice Tryd.underlying22 (hval 1 22 v1 rfl rfl)
  have k1 := h1
  have lt1 : ∀ x ∈ p1, x.block < W.heap.size := by obtain ⟨m, hm⟩ := k1; exact DataW.trod_lt m _ _ _ hm
  obtain ⟨z1, w1⟩ : ∃ zs, IsRow .u8 W a1 len1 cap1 zs := by
    obtain ⟨fuel, hf⟩ := h1
    rcases open_ints Tryd.underlying22 Tryd.underlying5 (by kernel_rfl) hf with ⟨hcs, _⟩ | ⟨x, l, c, zs, hcs, _, hl, hm, hz, _, hcell, hwz⟩
    · simp [Value.cells] at hcs
      obtain ⟨rfl, rfl, rfl⟩ := hcs
      exact ⟨[], .inl ⟨rfl, rfl, rfl, rfl⟩⟩
    · simp [Value.cells] at hcs
      obtain ⟨rfl, rfl, rfl⟩ := hcs
      exact ⟨zs, .inr ⟨_, rfl, hl, hm, by simpa using hz, hcell, hwz⟩⟩
  obtain ⟨b1, w1⟩ := byt_of_row w1
  obtain ⟨a2, len2, cap2, rfl⟩ := okWide_slice Tryd.underlying22 (hval 2 22 v2 rfl rfl)
  have k2 := h2
  have lt2 : ∀ x ∈ p2, x.block < W.heap.size := by obtain ⟨m, hm⟩ := k2; exact DataW.trod_lt m _ _ _ hm
  obtain ⟨z2, w2⟩ : ∃ zs, IsRow .u8 W a2 len2 cap2 zs := by
    obtain ⟨fuel, hf⟩ := h2
    rcases open_ints Tryd.underlying22 Tryd.underlying5 (by kernel_rfl) hf with ⟨hcs, _⟩ | ⟨x, l, c, zs, hcs, _, hl, hm, hz, _, hcell, hwz⟩
    · simp [Value.cells] at hcs
      obtain ⟨rfl, rfl, rfl⟩ := hcs
      exact ⟨[], .inl ⟨rfl, rfl, rfl, rfl⟩⟩
    · simp [Value.cells] at hcs
      obtain ⟨rfl, rfl, rfl⟩ := hcs
      exact ⟨zs, .inr ⟨_, rfl, hl, hm, by simpa using hz, hcell, hwz⟩⟩
  obtain ⟨b2, w2⟩ := byt_of_row w2
  obtain ⟨a3, len3, cap3, rfl⟩ := okWide_slice Tryd.underlying22 (hval 3 22 v3 rfl rfl)
  have k3 := h3
  have lt3 : ∀ x ∈ p3, x.block < W.heap.size := by obtain ⟨m, hm⟩ := k3; exact DataW.trod_lt m _ _ _ hm
  obtain ⟨z3, w3⟩ : ∃ zs, IsRow .u8 W a3 len3 cap3 zs := by
    obtain ⟨fuel, hf⟩ := h3
    rcases open_ints Tryd.underlying22 Tryd.underlying5 (by kernel_rfl) hf with ⟨hcs, _⟩ | ⟨x, l, c, zs, hcs, _, hl, hm, hz, _, hcell, hwz⟩
    · simp [Value.cells] at hcs
      obtain ⟨rfl, rfl, rfl⟩ := hcs
      exact ⟨[], .inl ⟨rfl, rfl, rfl, rfl⟩⟩
    · simp [Value.cells] at hcs
      obtain ⟨rfl, rfl, rfl⟩ := hcs
      exact ⟨zs, .inr ⟨_, rfl, hl, hm, by simpa using hz, hcell, hwz⟩⟩
  obtain ⟨b3, w3⟩ := byt_of_row w3
  clear hA0 hval0
  refine (typesApart_walk a0 len0 cap0 b0 a1 len1 cap1 b1 a2 len2 cap2 b2 a3 len3 cap3 b3 W w0 w1 w2 w3 (mx_of hsh)).mono fun e W' ⟨he, hg⟩ => ?_
  subst he
  exact ⟨_, rfl, _, _, _, [], _, [], hW', trodAll_mk1 (shut_bool Tryd.underlying4 _), (trodAll_cons_mk (Below.trod Tryd.laidOut (by kernel_rfl) (of_decide_eq_true (by kernel_rfl)) k0 hg lt0) (trodAll_cons_mk (Below.trod Tryd.laidOut (by kernel_rfl) (of_decide_eq_true (by kernel_rfl)) k1 hg lt1) (trodAll_cons_mk (Below.trod Tryd.laidOut (by kernel_rfl) (of_decide_eq_true (by kernel_rfl)) k2 hg lt2) (trodAll_cons_mk (Below.trod Tryd.laidOut (by kernel_rfl) (of_decide_eq_true (by kernel_rfl)) k3 hg lt3) trodAll_mk0)))), rfl, hg.frame _, fun h => by cases h⟩

theorem typesApart_over : Rows.typesApartRow.holds Tryd.pinned (OpenSpec.ofChange Rows.typesApartSpec) :=
  OpenClaim.holds_of_wide 7 Tryd.f7 rfl rfl rfl rfl rfl rfl rfl ⟨rfl, rfl, rfl, rfl, rfl⟩ rfl rfl rfl rfl rfl (by kernel_rfl) Tryd.func7 (by kernel_rfl)
    (of_decide_eq_true (by kernel_rfl)) (by unfold Func.isWrapper; first | (rw [if_pos (by decide +kernel)]; kernel_rfl) | (rw [if_neg (by decide +kernel)]; exact ⟨rfl, rfl⟩))
    (fun os started H enc _ => typesApart_lifted os started H enc)

theorem typesApart_proved : Rows.TypesApartCardSaid :=
  Claim7.holds_tied_plain_at .later [] [.data, .pinned] true (true, "4363a9f1bcaa13f3b457e37f1a1b0955e8ef81f2314578975e89844add95430d") true
    typesApart_over (fun _ h => by cases h) (by kernel_rfl) (fun _ h => by cases h) typesApart_row_tie rfl ⟨rfl, rfl⟩ (by kernel_rfl) rfl
    (fun f fn hf hfn => by
      obtain rfl : f = 7 := Option.some.inj ((show Tryd.prog.funcNamed "grommet/grommetlaw09.TypesApart" = some 7 by kernel_rfl).symm.trans hf) |>.symm
      obtain rfl : fn = Tryd.f7 := (Option.some.inj (Tryd.func7.symm.trans hfn)).symm
      exact ⟨by kernel_rfl, fun j t ht => by
        rw [Tryd.params7] at ht
        have hm : t ∈ [22, 22, 22, 22] := by simpa using Array.mem_of_getElem? ht
        have hall : ([22, 22, 22, 22].all fun u => !Tryd.prog.wantsStandIn u) = true := by kernel_rfl
        exact (show Tryd.prog.wantsStandIn t = false by simpa using List.all_eq_true.1 hall t hm)⟩)
    (by kernel_rfl)
#print axioms typesApart_proved
end Go.Proofs.YtalpkdnnclghaaaDoor
