/-
  What keeps an access from being done, and Load and Store.
-/
import Derived.Test.YtlnffcledpccjaaRg
import Derived.BigQuiet
import Derived.OwnWalk
import Derived.WalkKit
import Derived.ProofKit
import Derived.OpenShut
import Derived.ShutString
import Derived.ChangeOld
import Derived.Below
namespace Go.Proofs.Ytlnffcledpccjaa
set_option linter.unusedVariables false
set_option linter.unusedSimpArgs false
open Go.ChangeShapes Go.WideShapes Go.ChangeAt
open Go.RowKit
set_option maxRecDepth 100000 in
theorem SpNew_ok (pg num pages most : Nat) (wide : Bool) (w : World) (h1 : pages ≤ most) (h2 : most ≤ 65536) (h3 : num ≤ 9223372036854775807) :
    Calls Try.prog 24 #[.pointer (some ⟨pg, 0, none⟩), .int .i64 num, .int .i64 pages, .int .i64 most, .bool wide] w fun e w' => e = .returned (.tuple #[.pointer (some ⟨w.heap.size, 0, none⟩), .int .i64 0]) ∧ w' = w.alloc (.cells (mmC pg num pages most most wide) 117) := by
  go_enter Try.func24, Try.ntmps24
  go_wp2
  go_ret2
  exact ⟨rfl, rfl⟩
set_option maxRecDepth 100000 in
theorem SpNew_nil (a b c : Int) (wide : Bool) (w : World) :
    Calls Try.prog 24 #[.pointer none, .int .i64 a, .int .i64 b, .int .i64 c, .bool wide] w fun e w' => e = .returned (.tuple #[.pointer none, .int .i64 12]) ∧ w = w' := by
  go_enter Try.func24, Try.ntmps24
  go_wp2
  go_ret2
  exact ⟨rfl, rfl⟩
set_option maxRecDepth 100000 in
theorem SpNew_arg (pg : Nat) (a b c : Int) (wide : Bool) (w : World) (h : a < 0 ∨ (0 ≤ a ∧ b < 0) ∨ (0 ≤ a ∧ 0 ≤ b ∧ c < b) ∨ (0 ≤ a ∧ 0 ≤ b ∧ b ≤ c ∧ 65536 < c)) :
    Calls Try.prog 24 #[.pointer (some ⟨pg, 0, none⟩), .int .i64 a, .int .i64 b, .int .i64 c, .bool wide] w fun e w' => e = .returned (.tuple #[.pointer none, .int .i64 1]) ∧ w = w' := by
  rcases h with h | ⟨h1, h⟩ | ⟨h1, h2, h⟩ | ⟨h1, h2, h3, h⟩
  all_goals
    go_enter Try.func24, Try.ntmps24
    go_wp2
    go_ret2
    exact ⟨rfl, rfl⟩
theorem Grow_nil (n : Int) (w : World) : Calls Try.prog 34 #[.pointer none, .int .u64 n] w fun e w' => e = .returned (.tuple #[.int .i64 0, .bool false]) ∧ ∃ k, w' = w.drewN k := by
  have e0 : decide True = true := rfl
  go_enter Try.func34, Try.ntmps34
  go_wp2_with fail
  go_quiet (fail)
  go_wp2
  go_ret2
  exact ⟨rfl, _, rfl⟩
set_option maxRecDepth 100000 in
theorem asked_nil (a b c : Int) (w : World) : Calls Try.prog 48 #[.pointer none, .int .u64 a, .int .u64 b, .int .i64 c] w fun e w' => e = .returned (.tuple #[.int .i64 0, .int .i64 12]) ∧ w = w' := by
  go_enter Try.func48, Try.ntmps48
  go_wp2
  go_ret2
  exact ⟨rfl, rfl⟩
set_option maxRecDepth 100000 in
theorem asked_neg (M : Nat) (a b c : Int) (w : World) (h : c < 0) : Calls Try.prog 48 #[.pointer (some ⟨M, 0, none⟩), .int .u64 a, .int .u64 b, .int .i64 c] w fun e w' => e = .returned (.tuple #[.int .i64 0, .int .i64 1]) ∧ w = w' := by
  go_enter Try.func48, Try.ntmps48
  go_wp2
  go_ret2
  exact ⟨rfl, rfl⟩
set_option maxRecDepth 100000 in
theorem asked_long (M : Nat) (a b c : Int) (w : World) (h : 1048576 < c) : Calls Try.prog 48 #[.pointer (some ⟨M, 0, none⟩), .int .u64 a, .int .u64 b, .int .i64 c] w fun e w' => e = .returned (.tuple #[.int .i64 0, .int .i64 15]) ∧ w = w' := by
  go_enter Try.func48, Try.ntmps48
  go_wp2
  go_ret2
  exact ⟨rfl, rfl⟩
/-- whether n bytes from at+off on are not all in the pages -/
def bey (pages at_ off n : Nat) : Bool := decide (pages * 65536 < at_ + off + n)
set_option maxHeartbeats 1000000 in
set_option maxRecDepth 100000 in
theorem beyond_ok {w : World} (M pg num pages most capped at_ off n : Nat) (wide : Bool) (hM : Blk w M 117 (mmC pg num pages most capped wide)) (hp : pages ≤ 65536) (h1 : at_ ≤ 18446744073709551615) (h2 : off ≤ 18446744073709551615) (h3 : n ≤ 18446744073709551615) :
    Calls Try.prog 52 #[.pointer (some ⟨M, 0, none⟩), .int .u64 at_, .int .u64 off, .int .u64 n] w fun e w' => e = .returned (.bool (bey pages at_ off n)) ∧ w = w' := by
  have c2 : w.cell? ⟨M, 2, none⟩ = some (.int .i64 pages) := hM.cell 2
  clear hM
  have eI0 : Sem.run Try.prog (Instr.index 143 (Value.agg #[Value.int IntKind.u64 ↑at_, Value.int IntKind.u64 ↑off, Value.int IntKind.u64 ↑n]) (Value.int IntKind.i64 0)) w = .ok (.int .u64 at_) w := by kernel_rfl
  have eI1 : Sem.run Try.prog (Instr.index 143 (Value.agg #[Value.int IntKind.u64 ↑at_, Value.int IntKind.u64 ↑off, Value.int IntKind.u64 ↑n]) (Value.int IntKind.i64 1)) w = .ok (.int .u64 off) w := by kernel_rfl
  have eI2 : Sem.run Try.prog (Instr.index 143 (Value.agg #[Value.int IntKind.u64 ↑at_, Value.int IntKind.u64 ↑off, Value.int IntKind.u64 ↑n]) (Value.int IntKind.i64 2)) w = .ok (.int .u64 n) w := by kernel_rfl
  have HI0 := Lib.hid eI0
  have HI1 := Lib.hid eI1
  have HI2 := Lib.hid eI2
  clear eI0 eI1 eI2
  go_enter Try.func52, Try.ntmps52
  go_wp2
  go_loop [9, 22] (fun v9 v22 => ∃ (i left : Nat), i ≤ 3 ∧ v9 = .int .u64 left ∧ v22 = .int .i64 i ∧ (i = 0 → left = pages * 65536) ∧ (i = 1 → left + at_ = pages * 65536) ∧ (i = 2 → left + at_ + off = pages * 65536) ∧ (i = 3 → left + at_ + off + n = pages * 65536)) (fun _ v22 => 3 - (intOf v22).toNat)
  case atStart => exact ⟨0, pages * 65536, by omega, by go_num, rfl, fun _ => rfl, fun e => by omega, fun e => by omega, fun e => by omega⟩
  case round =>
    obtain ⟨i, left, hi, rfl, rfl, g0, g1, g2, g3⟩ := hrel
    rcases (by omega : i = 0 ∨ i = 1 ∨ i = 2 ∨ i = 3) with rfl | rfl | rfl | rfl
    · have g0 := g0 rfl
      clear g1 g2 g3
      have hb0 : left ≤ 18446744073709551615 := by omega
      by_cases hx : left < at_
      · go_wp2
        rw [HI0.out]
        go_wp2
        go_ret
        exact ⟨ret_bool (decide_eq_true (by omega)).symm, rfl⟩
      · go_wp2
        rw [HI0.out]
        go_wp2
        go_round
        case rel => exact ⟨1, left - at_, by omega, by go_num, by go_num, fun e => by omega, fun e => by omega, fun e => by omega, fun e => by omega⟩
        case measure => simp [intOf]
    · have g1 := g1 rfl
      clear g0 g2 g3
      have hb1 : left ≤ 18446744073709551615 := by omega
      by_cases hx : left < off
      · go_wp2
        rw [HI1.out]
        go_wp2
        go_ret
        exact ⟨ret_bool (decide_eq_true (by omega)).symm, rfl⟩
      · go_wp2
        rw [HI1.out]
        go_wp2
        go_round
        case rel => exact ⟨2, left - off, by omega, by go_num, by go_num, fun e => by omega, fun e => by omega, fun e => by omega, fun e => by omega⟩
        case measure => simp [intOf]
    · have g2 := g2 rfl
      clear g1 g0 g3
      have hb2 : left ≤ 18446744073709551615 := by omega
      by_cases hx : left < n
      · go_wp2
        rw [HI2.out]
        go_wp2
        go_ret
        exact ⟨ret_bool (decide_eq_true (by omega)).symm, rfl⟩
      · go_wp2
        rw [HI2.out]
        go_wp2
        go_round
        case rel => exact ⟨3, left - n, by omega, by go_num, by go_num, fun e => by omega, fun e => by omega, fun e => by omega, fun e => by omega⟩
        case measure => simp [intOf]
    · have g3 := g3 rfl
      clear g1 g2 g0
      go_wp2
      go_ret
      exact ⟨ret_bool (decide_eq_false (by omega)).symm, rfl⟩
set_option maxRecDepth 100000 in
theorem asked_ok {w : World} (M pg num pages most capped at_ off n : Nat) (wide : Bool) (hM : Blk w M 117 (mmC pg num pages most capped wide)) (hp : pages ≤ 65536) (h1 : at_ ≤ 18446744073709551615) (h2 : off ≤ 18446744073709551615) (h3 : n ≤ 1048576) :
    Calls Try.prog 48 #[.pointer (some ⟨M, 0, none⟩), .int .u64 at_, .int .u64 off, .int .i64 n] w fun e w' => e = .returned (.tuple #[.int .i64 (if bey pages at_ off n = true then 4 else 0), .int .i64 0]) ∧ w = w' := by
  have HB := Lib.hid (beyond_ok M pg num pages most capped at_ off n wide hM hp h1 h2 (by omega))
  clear hM
  cases hb : bey pages at_ off n with
  | true =>
    rw [hb] at HB
    go_enter Try.func48, Try.ntmps48
    go_wp2_with (go_at_call 52; refine HB.out.mono ?_; rintro e w1 ⟨rfl, rfl⟩)
    go_ret2
    exact ⟨rfl, rfl⟩
  | false =>
    rw [hb] at HB
    go_enter Try.func48, Try.ntmps48
    go_wp2_with (go_at_call 52; refine HB.out.mono ?_; rintro e w1 ⟨rfl, rfl⟩)
    go_ret2
    exact ⟨rfl, rfl⟩
/-- Load: of any numbers that are asked for without end -/
theorem Load_err (B : Option Nat) (a b c : Int) (w : World) (T E : Int) (hTE : T ≠ 0 ∨ (T = 0 ∧ E ≠ 0)) (h : ∀ p : Value, p = .pointer (B.map (⟨·, 0, none⟩)) → Calls Try.prog 48 #[p, .int .u64 a, .int .u64 b, .int .i64 c] w fun e w' => e = .returned (.tuple #[.int .i64 T, .int .i64 E]) ∧ w = w') :
    Calls Try.prog 26 #[.pointer (B.map (⟨·, 0, none⟩)), .int .u64 a, .int .u64 b, .int .i64 c] w fun e w' => e = .returned (.tuple #[.slice none 0 0, .int .i64 T, .int .i64 E]) ∧ w = w' := by
  have HH := Lib.hid (h _ rfl)
  clear h
  rcases hTE with h0 | ⟨rfl, h0⟩
  · have hne : (T != 0) = true := by simpa using h0
    go_enter Try.func26, Try.ntmps26
    go_wp2_with (go_at_call 48; refine HH.out.mono ?_; rintro e w1 ⟨rfl, rfl⟩)
    refine bodyPost_ret (results_tmp3 rfl _ _ _) rfl ?_
    exact ⟨rfl, rfl⟩
  · have hne : (E != 0) = true := by simpa using h0
    go_enter Try.func26, Try.ntmps26
    go_wp2_with (go_at_call 48; refine HH.out.mono ?_; rintro e w1 ⟨rfl, rfl⟩)
    refine bodyPost_ret (results_tmp3 rfl _ _ _) rfl ?_
    exact ⟨rfl, rfl⟩
theorem Store_err (B : Option Nat) (a b : Int) (S : Option Addr) (n cp : Nat) (hn : n ≤ cp) (hcp : cp ≤ maxLen) (w : World) (T E : Int) (hTE : T ≠ 0 ∨ (T = 0 ∧ E ≠ 0)) (h : ∀ p : Value, p = .pointer (B.map (⟨·, 0, none⟩)) → Calls Try.prog 48 #[p, .int .u64 a, .int .u64 b, .int .i64 n] w fun e w' => e = .returned (.tuple #[.int .i64 T, .int .i64 E]) ∧ w = w') :
    Calls Try.prog 29 #[.pointer (B.map (⟨·, 0, none⟩)), .int .u64 a, .int .u64 b, .slice S n cp] w fun e w' => e = .returned (.tuple #[.int .i64 T, .int .i64 E]) ∧ w = w' := by
  have HH := Lib.hid (h _ rfl)
  clear h
  have hcp9 : cp ≤ 9223372036854775807 := by unfold maxLen at hcp; omega
  rcases hTE with h0 | ⟨rfl, h0⟩
  · have hne : (T != 0) = true := by simpa using h0
    go_enter Try.func29, Try.ntmps29
    go_wp2_with (go_at_call 48; refine HH.out.mono ?_; rintro e w1 ⟨rfl, rfl⟩)
    go_ret2
    exact ⟨rfl, rfl⟩
  · have hne : (E != 0) = true := by simpa using h0
    go_enter Try.func29, Try.ntmps29
    go_wp2_with (go_at_call 48; refine HH.out.mono ?_; rintro e w1 ⟨rfl, rfl⟩)
    go_ret2
    exact ⟨rfl, rfl⟩
section
variable {w0 w : World} {A : Pa} {bb rm gm nf sz cap k o : Nat} {C : Nat × Nat → List Nat} {X : Nat → Prop}
def LdP (w0 : World) (A : Pa) (bb rm gm nf sz cap : Nat) (C : Nat × Nat → List Nat) (k o : Nat) (X : Nat → Prop) (num place n : Nat) (w : World) (e : Ending) (w' : World) : Prop :=
  ∃ g : Nat, e = .returned (.tuple #[.slice (some ⟨g, 0, none⟩) n n, .int .i64 0, .int .i64 0]) ∧ w.heap.size ≤ g ∧ Byt w' (some ⟨g, 0, none⟩) n n (mbs C num sz place n) ∧ S1 w0 A bb rm gm nf sz cap C k o (fun q => X q ∨ q = g) w' ∧ KX w0 X w w'
theorem Load_ok (h : S1 w0 A bb rm gm nf sz cap C k o X w) (M num pages most capped at_ off n : Nat) (wide : Bool) (hM : Blk w M 117 (mmC A.p num pages most capped wide)) (hX : X M) (hp : pages ≤ 65536) (hb : at_ + off + n ≤ pages * 65536) (hsz : 16 ≤ sz) (hsz2 : sz ≤ 1024) (hnum : num ≤ 9223372036854775807) (hn : n ≤ 1048576) (ho : o + 3 * (n / sz + 2) < 900000) (hk : k ≤ cap) :
    Calls Try.prog 26 #[.pointer (some ⟨M, 0, none⟩), .int .u64 at_, .int .u64 off, .int .i64 n] w (LdP w0 A bb rm gm nf sz cap C k (o + 3 * (n / sz + 2)) X num (at_ + off) n w) := by
  have ha := asked_ok M A.p num pages most capped at_ off n wide hM hp (by omega) (by omega) hn
  have hbf : bey pages at_ off n = false := decide_eq_false (by omega)
  rw [hbf, if_neg (by decide)] at ha
  have HA := Lib.hid ha
  have hr := mread_ok h M num pages most capped (at_ + off) n wide hM hX hsz hsz2 hnum (by omega) hn ho hk
  rw [Int.natCast_add] at hr
  have HR := Lib.hid hr
  have hao : at_ + off ≤ 4611686018427387904 := by omega
  clear ha hbf hr h hM
  go_enter Try.func26, Try.ntmps26
  go_wp2_with (first
    | (go_at_call 48; refine HA.out.mono ?_; rintro e w1 ⟨rfl, rfl⟩)
    | (go_at_call 49; with_reducible refine HR.out.mono ?_; rintro e w2 hP; unfold MrP at hP; obtain ⟨g, rfl, h1, h2, h3, h4⟩ := hP; have HP := Lib.hid (And.intro h1 (And.intro h2 (And.intro h3 h4))); clear h1 h2 h3 h4))
  refine bodyPost_ret (results_tmp3 rfl _ _ _) rfl ?_
  exact ⟨g, rfl, HP.out.1, HP.out.2.1, HP.out.2.2.1, HP.out.2.2.2⟩
def StP (w0 : World) (A : Pa) (bb rm gm nf sz cap : Nat) (C : Nat × Nat → List Nat) (k o : Nat) (X : Nat → Prop) (w : World) (e : Ending) (w' : World) : Prop :=
  e = .returned (.tuple #[.int .i64 0, .int .i64 0]) ∧ S1 w0 A bb rm gm nf sz cap C k o X w' ∧ KX w0 X w w'
theorem Store_ok (h : S1 w0 A bb rm gm nf sz cap C k o X w) (M num pages most capped at_ off n cp : Nat) (wide : Bool) (B : Option Addr) (l : List Nat) (hM : Blk w M 117 (mmC A.p num pages most capped wide)) (hX : X M) (hB : Byt w B n cp l) (hBx : ∀ g, B.map (·.block) = some g → 0 < n → (X g ∨ g < w0.heap.size)) (hp : pages ≤ 65536) (hb : at_ + off + n ≤ pages * 65536) (hsz : 16 ≤ sz) (hsz2 : sz ≤ 1024) (hnum : num ≤ 9223372036854775807) (hn : n ≤ 1048576) (ho : o + 3 * (n / sz + 2) < 900000) (hk : k + (n / sz + 2) ≤ cap) :
    Calls Try.prog 29 #[.pointer (some ⟨M, 0, none⟩), .int .u64 at_, .int .u64 off, .slice B n cp] w (StP w0 A bb rm gm nf sz cap (wrm C num sz (at_ + off) l n) (k + (n / sz + 2)) (o + 3 * (n / sz + 2)) X w) := by
  have ha := asked_ok M A.p num pages most capped at_ off n wide hM hp (by omega) (by omega) hn
  have hbf : bey pages at_ off n = false := decide_eq_false (by omega)
  rw [hbf, if_neg (by decide)] at ha
  have HA := Lib.hid ha
  have hr := mwrite_ok h M num pages most capped (at_ + off) n cp wide B l hM hX hB hBx hsz hsz2 hnum (by omega) hn ho hk
  rw [Int.natCast_add] at hr
  have HR := Lib.hid hr
  have hao : at_ + off ≤ 4611686018427387904 := by omega
  have hncp : n ≤ cp := hB.2.2.1
  have hcp9 : cp ≤ 9223372036854775807 := by have := hB.2.2.2.1; unfold maxLen at this; omega
  clear ha hbf hr h hM hB
  go_enter Try.func29, Try.ntmps29
  go_wp2_with (first
    | (go_at_call 48; refine HA.out.mono ?_; rintro e w1 ⟨rfl, rfl⟩)
    | (go_at_call 51; with_reducible refine HR.out.mono ?_; rintro e w2 hP; unfold MwP at hP; obtain ⟨rfl, h1, h2⟩ := hP; have HP := Lib.hid (And.intro h1 h2); clear h1 h2))
  go_ret2
  exact ⟨rfl, HP.out.1, HP.out.2⟩
end

end Go.Proofs.Ytlnffcledpccjaa
/-
  A pager of a number of frames; no memory; Fill of none.
-/
namespace Go.Proofs.Ytlnffcledpccjaa
set_option linter.unusedVariables false
set_option linter.unusedSimpArgs false
open Go.ChangeShapes Go.WideShapes Go.ChangeAt
open Go.RowKit
set_option maxHeartbeats 1000000 in
set_option maxRecDepth 100000 in
theorem Pager_n (f : Int) (n : Nat) (hn : (n : Int) = 1 + (if f ≤ 0 then 0 else if 63 ≤ f then 63 else f)) (w : World) :
    Calls Try.prog 23 #[.int .i64 f] w fun e w' => ∃ A bb rm gm, e = .returned (.pointer (some ⟨A.p, 0, none⟩)) ∧ S1 w A bb rm gm n 64 4096 (fun _ => zs 64) 0 0 (fun _ => False) w' := by
  have hn1 : 1 ≤ n := by omega
  have hn64 : n ≤ 64 := by omega
  have HN0 := Lib.hid hn
  clear hn
  go_enter Try.func23, Try.ntmps23
  go_wp2_with fail
  refine (ANew_ok 65536 _ (by omega)).mono ?_
  rintro e w2 ⟨a, bb, rm, gm, rfl, h2, b2, ha2, hbb, hr, hg⟩
  have H2 := Lib.hid h2
  have B2 := Lib.hid b2
  have HA := Lib.hid (show w.heap.size ≤ a ∧ w.heap.size ≤ bb ∧ w.heap.size ≤ rm ∧ w.heap.size ≤ gm from by omega)
  clear h2 b2 ha2 hbb hr hg
  go_wp2_with fail
  refine (SNew_ok 64 4096 w2 (by omega) (by omega) (by omega)).mono ?_
  unfold NuPost
  rintro e w3 ⟨s, m, rfl, h3, b3, hs, hm⟩
  have HN := Lib.hid (fun (x : Int) (e : x = n) => (show Calls Try.prog 14 #[.pointer (some ⟨a, 0, none⟩), .pointer (some ⟨s, 0, none⟩), .int .i64 x] w3 _ from e ▸ (S1.new (k := n) H2.out B2.out HA.out h3 b3 hs hm (by decide) hn1 hn64 (by omega))))
  clear h3 b3 hs hm
  go_wp2_with fail
  all_goals
    refine (HN.out _ (by have e := HN0.out; omega)).mono ?_
    rintro e w4 ⟨A, _, rfl, hS⟩
    have HS := Lib.hid hS
    clear hS
    go_wp2_with fail
    go_ret
    exact ⟨A, bb, rm, gm, rfl, HS.out⟩
set_option maxRecDepth 100000 in
theorem Copy_nil (B : Option Nat) (a b c : Int) (w : World) :
    Calls Try.prog 33 #[.pointer none, .pointer (B.map (⟨·, 0, none⟩)), .int .u64 a, .int .u64 b, .int .u64 c] w fun e w' => e = .returned (.tuple #[.int .i64 0, .int .i64 12]) ∧ w = w' := by
  go_enter Try.func33, Try.ntmps33
  go_wp2_with fail
  go_ret2
  exact ⟨rfl, rfl⟩
set_option maxRecDepth 100000 in
theorem Copy_nil2 (M : Nat) (a b c : Int) (w : World) :
    Calls Try.prog 33 #[.pointer (some ⟨M, 0, none⟩), .pointer none, .int .u64 a, .int .u64 b, .int .u64 c] w fun e w' => e = .returned (.tuple #[.int .i64 0, .int .i64 12]) ∧ w = w' := by
  go_enter Try.func33, Try.ntmps33
  go_wp2_with fail
  go_ret2
  exact ⟨rfl, rfl⟩
theorem Pages_nil (w : World) : Calls Try.prog 37 #[.pointer none] w fun e w' => e = .returned (.int .i64 0) ∧ w = w' := by
  go_enter Try.func37, Try.ntmps37
  go_wp2_with fail
  go_ret
  exact ⟨rfl, rfl⟩
theorem Wide_nil (w : World) : Calls Try.prog 25 #[.pointer none] w fun e w' => e = .returned (.bool false) ∧ ∃ k, w' = w.drewN k := by
  go_enter Try.func25, Try.ntmps25
  go_wp2_with fail
  first
    | (go_ret; exact ⟨rfl, 0, rfl⟩)
    | (go_quiet (fail); go_wp2; go_ret; exact ⟨rfl, _, rfl⟩)
theorem Cap_nil (n : Int) (w : World) : Calls Try.prog 36 #[.pointer none, .int .i64 n] w fun e w' => e = .returned (.bool false) ∧ w = w' := by
  go_enter Try.func36, Try.ntmps36
  go_wp2_with fail
  go_ret
  exact ⟨rfl, rfl⟩
set_option maxRecDepth 100000 in
theorem Fill_nil (a c : Int) (b : Int) (w : World) :
    Calls Try.prog 31 #[.pointer none, .int .u64 a, .int .u8 b, .int .u64 c] w fun e w' => e = .returned (.tuple #[.int .i64 0, .int .i64 12]) ∧ Below w.heap.size w w' := by
  go_enter Try.func31, Try.ntmps31
  go_wp2_with fail
  have hres : Try.f31.results = #[.cell 8 59, .cell 9 25] := rfl
  obtain ⟨w1, hw1⟩ : ∃ w1, w1 = w.alloc (Obj.cells #[.pointer none] 48) := ⟨_, rfl⟩
  have hs1 : w1.heap.size = w.heap.size + 1 := by rw [hw1, World.size_alloc]
  have hf1 : Fr (fun _ => False) w w1 := by rw [hw1]; exact (Fr.refl _ w).alloc _
  obtain ⟨w2, hw2⟩ : ∃ w2, w2 = w1.alloc (Obj.cells #[.int .i64 0] 59) := ⟨_, rfl⟩
  have hs2 : w2.heap.size = w.heap.size + 2 := by rw [hw2, World.size_alloc, hs1]
  have hb2 : Blk w2 (w.heap.size + 1) 59 #[.int .i64 0] := by rw [hw2, ← hs1]; exact Blk.new w1 59 _
  have hf2 : Fr (fun _ => False) w1 w2 := by rw [hw2]; exact (Fr.refl _ w1).alloc _
  obtain ⟨w3, hw3⟩ : ∃ w3, w3 = w2.alloc (Obj.cells #[.int .i64 12] 25) := ⟨_, rfl⟩
  have hb3 : Blk w3 (w.heap.size + 2) 25 #[.int .i64 12] := by rw [hw3, ← hs2]; exact Blk.new w2 25 _
  have hf3 : Fr (fun _ => False) w2 w3 := by rw [hw3]; exact (Fr.refl _ w2).alloc _
  have hb2' := hb2.fr hf3 (fun q => q)
  rw [← hw1, ← hw2, ← hw3]
  have c8 : w3.cell? ⟨w.heap.size + 1, 0, none⟩ = some (.int .i64 0) := hb2'.cell 0
  have c9 : w3.cell? ⟨w.heap.size + 1 + 1, 0, none⟩ = some (.int .i64 12) := hb3.cell 0
  refine bodyPost_ret (v := .tuple #[.int .i64 0, .int .i64 12]) ?_ rfl ⟨rfl, ?_⟩
  · simp [results, hres, go_sem, c8, c9]
  · exact (((hf1.trans hf2).trans hf3).below (Below.refl _ _) (Nat.le_refl _) (fun q h => h.elim))

end Go.Proofs.Ytlnffcledpccjaa
/-
  The document's example of a memory.
-/
namespace Go.Proofs.Ytlnffcledpccjaa
set_option linter.unusedVariables false
set_option linter.unusedSimpArgs false
open Go.ChangeShapes Go.WideShapes Go.ChangeAt
open Go.RowKit
set_option maxHeartbeats 4000000 in
set_option maxRecDepth 100000 in
theorem awake8_any (w : World) : Calls Try.prog 22 #[] w fun e w' => e = .returned (.bool true) ∧ Below w.heap.size w w' := by
  go_enter Try.func22, Try.ntmps22
  go_wp2_with fail
  refine (Pager_n 2 3 (by decide) w).mono ?_
  rintro e w1 ⟨A, bb, rm, gm, rfl, hS⟩
  have HS1 := Lib.hid hS
  clear hS
  go_wp2_with fail
  refine (SpNew_ok A.p 0 1 2 false w1 (by omega) (by omega) (by omega)).mono ?_
  rintro e w2 ⟨rfl, rfl⟩
  have HS2 := Lib.hid (HS1.out.alloc (.cells (mmC A.p 0 1 2 2 false) 117))
  have HM2 := Lib.hid (Blk.new w1 117 (mmC A.p 0 1 2 2 false))
  generalize (w1.alloc (.cells (mmC A.p 0 1 2 2 false) 117)) = w2 at HS2 HM2 ⊢
  generalize w1.heap.size = M at HS2 HM2 ⊢
  go_wp2_with fail
  have hf3 := (Fr.refl (fun _ => False) w2).alloc (Obj.cells #[Value.int IntKind.u8 1, Value.int IntKind.u8 2, Value.int IntKind.u8 3, Value.int IntKind.u8 4] 5)
  have hS3 := HS2.out.alloc (Obj.cells #[Value.int IntKind.u8 1, Value.int IntKind.u8 2, Value.int IntKind.u8 3, Value.int IntKind.u8 4] 5)
  have hM3 := HM2.out.fr hf3 (fun q => q)
  have hby : Byt (w2.alloc (Obj.cells #[Value.int IntKind.u8 1, Value.int IntKind.u8 2, Value.int IntKind.u8 3, Value.int IntKind.u8 4] 5)) (some ⟨w2.heap.size, 0, none⟩) 4 4 [1, 2, 3, 4] := byt_of_blk (l := [1, 2, 3, 4]) (Blk.new w2 5 _) rfl (by decide) (by unfold maxLen; omega)
  refine (Store_ok hS3 M 0 1 2 2 65532 0 4 4 false _ _ hM3 (.inl (.inr rfl)) hby (fun g e _ => .inl (.inr (by simpa using e.symm))) (by omega) (by omega) (by omega) (by omega) (by omega) (by omega) (by omega) (by omega)).mono ?_
  rintro e w4 h4
  unfold StP at h4
  obtain ⟨rfl, hS4, hK4⟩ := h4
  have hM4 : Blk w4 M 117 (mmC A.p 0 1 2 2 false) := ((KX.fr hK4).block M hM3.lt (fun h => h.2 (.inl (.inr rfl)))).trans hM3
  have HS4 := Lib.hid hS4
  have HM4 := Lib.hid hM4
  clear hf3 hS3 hM3 hby hS4 hK4 hM4
  go_wp2_with fail
  have ha := asked_ok M A.p 0 1 2 2 65534 0 4 false HM4.out (by omega) (by omega) (by omega) (by omega)
  rw [show bey 1 65534 0 4 = true from by decide, if_pos rfl] at ha
  refine (Load_err (some M) 65534 0 4 w4 4 0 (.inl (by decide)) (fun p e => by rw [e]; exact ha)).mono ?_
  rintro e w5 ⟨rfl, rfl⟩
  clear ha
  go_wp2_with fail
  refine (Load_ok HS4.out M 0 1 2 2 0 65534 2 false HM4.out (.inl (.inr rfl)) (by omega) (by omega) (by omega) (by omega) (by omega) (by omega) (by omega) (by omega)).mono ?_
  rintro e w6 hP
  unfold LdP at hP
  obtain ⟨g, rfl, _, hy, hS6, _⟩ := hP
  have hcv := conv_byt hy
  rw [show str (mbs (wrm (fun _ => zs 64) 0 64 (65532 + 0) [1, 2, 3, 4] 4) 0 64 (0 + 65534) 2) = ⟨#[3, 4]⟩ from by decide +kernel] at hcv
  have hB := Lib.hid hS6.bel
  clear hS6 hy
  go_wp2_with fail
  go_ret
  exact ⟨rfl, hB.out⟩

end Go.Proofs.Ytlnffcledpccjaa
/-
  Grow, Pages, and the early ends of Fill.
-/
namespace Go.Proofs.Ytlnffcledpccjaa
set_option linter.unusedVariables false
set_option linter.unusedSimpArgs false
open Go.ChangeShapes Go.WideShapes Go.ChangeAt
open Go.RowKit
set_option maxRecDepth 100000 in
theorem Grow_ok {w : World} (M pg num pages most capped n : Nat) (wide : Bool) (hM : Blk w M 117 (mmC pg num pages most capped wide)) (hp : pages ≤ 65536) (hc : capped ≤ 65536) (hn : pages + n ≤ capped) :
    Calls Try.prog 34 #[.pointer (some ⟨M, 0, none⟩), .int .u64 n] w fun e w' => e = .returned (.tuple #[.int .i64 pages, .bool true]) ∧ Fr (fun q => q = M) w w' ∧ Blk w' M 117 (mmC pg num (pages + n) most capped wide) := by
  have c2 : w.cell? ⟨M, 2, none⟩ = some (.int .i64 pages) := hM.cell 2
  have c4 : w.cell? ⟨M, 4, none⟩ = some (.int .i64 capped) := hM.cell 4
  have z2 := hM.frozen 2
  have HM := Lib.hid hM
  clear hM
  go_enter Try.func34, Try.ntmps34
  go_wp2_with fail
  go_quiet (fail)
  go_wp2_with fail
  all_goals
    go_ret2
    refine ⟨rfl, ((Fr.refl (fun q => q = M) w).drewN nq).set_ (p := ⟨M, 2, none⟩) rfl _, ?_⟩
    have hh := (HM.out.drewN nq).set_ 2 (.int .i64 ((pages : Int) + n))
    rw [show mmC pg num (pages + n) most capped wide = #[.pointer (some ⟨pg, 0, none⟩), .int .i64 num, .int .i64 ((pages : Int) + n), .int .i64 most, .int .i64 capped, .bool wide] from by unfold mmC; rw [Int.natCast_add]]
    exact hh
set_option maxRecDepth 100000 in
theorem Grow_no {w : World} (M pg num pages most capped n : Nat) (wide : Bool) (hM : Blk w M 117 (mmC pg num pages most capped wide)) (hp : pages ≤ 65536) (hc : capped ≤ 65536) (hpc : pages ≤ capped) (hn : capped < pages + n) (hn2 : n ≤ 18446744073709551615) :
    Calls Try.prog 34 #[.pointer (some ⟨M, 0, none⟩), .int .u64 n] w fun e w' => e = .returned (.tuple #[.int .i64 0, .bool false]) ∧ ∃ k, w' = w.drewN k := by
  have c2 : w.cell? ⟨M, 2, none⟩ = some (.int .i64 pages) := hM.cell 2
  have c4 : w.cell? ⟨M, 4, none⟩ = some (.int .i64 capped) := hM.cell 4
  clear hM
  go_enter Try.func34, Try.ntmps34
  go_wp2_with fail
  go_quiet (fail)
  go_wp2_with fail
  all_goals
    go_ret2
    exact ⟨rfl, _, rfl⟩
theorem Pages_ok {w : World} (M pg num pages most capped : Nat) (wide : Bool) (hM : Blk w M 117 (mmC pg num pages most capped wide)) :
    Calls Try.prog 37 #[.pointer (some ⟨M, 0, none⟩)] w fun e w' => e = .returned (.int .i64 pages) ∧ w = w' := by
  have c2 : w.cell? ⟨M, 2, none⟩ = some (.int .i64 pages) := hM.cell 2
  clear hM
  go_enter Try.func37, Try.ntmps37
  go_wp2_with fail
  go_ret
  exact ⟨rfl, rfl⟩
set_option maxRecDepth 100000 in
theorem Fill_end {w : World} (M pg num pages most capped at_ n : Nat) (v : Int) (wide : Bool) (hM : Blk w M 117 (mmC pg num pages most capped wide)) (hp : pages ≤ 65536) (h1 : at_ ≤ 18446744073709551615) (hn : n ≤ 18446744073709551615) (hte : bey pages at_ 0 n = true ∨ 1048576 < n) :
    Calls Try.prog 31 #[.pointer (some ⟨M, 0, none⟩), .int .u64 at_, .int .u8 v, .int .u64 n] w fun e' w' => e' = .returned (if bey pages at_ 0 n = true then .tuple #[.int .i64 4, .int .i64 0] else .tuple #[.int .i64 0, .int .i64 15]) ∧ Fr (fun _ => False) w w' := by
  have hres : Try.f31.results = #[.cell 8 59, .cell 9 25] := rfl
  have HM := Lib.hid hM
  clear hM
  go_enter Try.func31, Try.ntmps31
  go_wp2_with fail
  obtain ⟨w1, hw1⟩ : ∃ w1, w1 = w.alloc (Obj.cells #[.pointer (some ⟨M, 0, none⟩)] 48) := ⟨_, rfl⟩
  have hs1 : w1.heap.size = w.heap.size + 1 := by rw [hw1, World.size_alloc]
  have hf1 : Fr (fun _ => False) w w1 := by rw [hw1]; exact (Fr.refl _ w).alloc _
  obtain ⟨w2, hw2⟩ : ∃ w2, w2 = w1.alloc (Obj.cells #[.int .i64 0] 59) := ⟨_, rfl⟩
  have hs2 : w2.heap.size = w.heap.size + 2 := by rw [hw2, World.size_alloc, hs1]
  have hb2 : Blk w2 (w.heap.size + 1) 59 #[.int .i64 0] := by rw [hw2, ← hs1]; exact Blk.new w1 59 _
  have hf2 : Fr (fun _ => False) w1 w2 := by rw [hw2]; exact (Fr.refl _ w1).alloc _
  obtain ⟨w3, hw3⟩ : ∃ w3, w3 = w2.alloc (Obj.cells #[.int .i64 0] 25) := ⟨_, rfl⟩
  have hb3 : Blk w3 (w.heap.size + 2) 25 #[.int .i64 0] := by rw [hw3, ← hs2]; exact Blk.new w2 25 _
  have hf3 : Fr (fun _ => False) w2 w3 := by rw [hw3]; exact (Fr.refl _ w2).alloc _
  have HB2 := Lib.hid (hb2.fr hf3 (fun q => q))
  have HB3 := Lib.hid hb3
  have HF := Lib.hid ((hf1.trans hf2).trans hf3)
  rw [← hw1, ← hw2, ← hw3]
  clear hw1 hw2 hw3 hs1 hs2 hf1 hf2 hf3 hb2 hb3
  have HM3 := Lib.hid (HM.out.fr HF.out (fun q => q))
  refine (beyond_ok M pg num pages most capped at_ 0 n wide HM3.out hp h1 (by omega) hn).mono ?_
  rintro e w4 ⟨rfl, rfl⟩
  cases hb : bey pages at_ 0 n with
  | true =>
    have hF1 := (Fr.refl (fun q => q = w.heap.size + 1) w3).set_ (p := ⟨w.heap.size + 1, 0, none⟩) rfl (.int .i64 4)
    have hB2 : Blk (w3.setCell ⟨w.heap.size + 1, 0, none⟩ (.int .i64 4)) (w.heap.size + 1) 59 #[.int .i64 4] := HB2.out.set_ 0 _
    have hB3 := HB3.out.fr hF1 (by omega)
    have hF2 := (Fr.refl (fun q => q = w.heap.size + 2) (w3.setCell ⟨w.heap.size + 1, 0, none⟩ (.int .i64 4))).set_ (p := ⟨w.heap.size + 1 + 1, 0, none⟩) rfl (.int .i64 0)
    have hB3' : Blk ((w3.setCell ⟨w.heap.size + 1, 0, none⟩ (.int .i64 4)).setCell ⟨w.heap.size + 1 + 1, 0, none⟩ (.int .i64 0)) (w.heap.size + 2) 25 #[.int .i64 0] := hB3.set_ 0 _
    have hB2' := hB2.fr hF2 (by omega)
    have z8 : w3.frozen? ⟨w.heap.size + 1, 0, none⟩ = false := HB2.out.frozen 0
    have c8 : w3.cell? ⟨w.heap.size + 1, 0, none⟩ = some (.int .i64 0) := HB2.out.cell 0
    have z9 : (w3.setCell ⟨w.heap.size + 1, 0, none⟩ (.int .i64 4)).frozen? ⟨w.heap.size + 1 + 1, 0, none⟩ = false := hB3.frozen 0
    have c9 : (w3.setCell ⟨w.heap.size + 1, 0, none⟩ (.int .i64 4)).cell? ⟨w.heap.size + 1 + 1, 0, none⟩ = some (.int .i64 0) := hB3.cell 0
    have r8 : ((w3.setCell ⟨w.heap.size + 1, 0, none⟩ (.int .i64 4)).setCell ⟨w.heap.size + 1 + 1, 0, none⟩ (.int .i64 0)).cell? ⟨w.heap.size + 1, 0, none⟩ = some (.int .i64 4) := hB2'.cell 0
    have r9 : ((w3.setCell ⟨w.heap.size + 1, 0, none⟩ (.int .i64 4)).setCell ⟨w.heap.size + 1 + 1, 0, none⟩ (.int .i64 0)).cell? ⟨w.heap.size + 1 + 1, 0, none⟩ = some (.int .i64 0) := hB3'.cell 0
    have HR := Lib.hid (And.intro r8 r9)
    have HFF := Lib.hid (And.intro hF1 hF2)
    clear hF1 hB2 hB3 hF2 hB3' hB2' r8 r9
    go_wp2_with fail
    have r8 := HR.out.1
    have r9 := HR.out.2
    refine bodyPost_ret (v := .tuple #[.int .i64 4, .int .i64 0]) ?_ rfl ⟨rfl, ?_⟩
    · simp [results, hres, go_sem, r8, r9]
    · exact (HF.out.trans_new HFF.out.1 (fun i h => .inr (by omega))).trans_new HFF.out.2 (fun i h => .inr (by omega))
  | false =>
    rw [hb] at hte
    have hn2 : 1048576 < n := hte.resolve_left (by decide)
    have hF1 := (Fr.refl (fun q => q = w.heap.size + 1) w3).set_ (p := ⟨w.heap.size + 1, 0, none⟩) rfl (.int .i64 0)
    have hB2 : Blk (w3.setCell ⟨w.heap.size + 1, 0, none⟩ (.int .i64 0)) (w.heap.size + 1) 59 #[.int .i64 0] := HB2.out.set_ 0 _
    have hB3 := HB3.out.fr hF1 (by omega)
    have hF2 := (Fr.refl (fun q => q = w.heap.size + 2) (w3.setCell ⟨w.heap.size + 1, 0, none⟩ (.int .i64 0))).set_ (p := ⟨w.heap.size + 1 + 1, 0, none⟩) rfl (.int .i64 15)
    have hB3' : Blk ((w3.setCell ⟨w.heap.size + 1, 0, none⟩ (.int .i64 0)).setCell ⟨w.heap.size + 1 + 1, 0, none⟩ (.int .i64 15)) (w.heap.size + 2) 25 #[.int .i64 15] := hB3.set_ 0 _
    have hB2' := hB2.fr hF2 (by omega)
    have z8 : w3.frozen? ⟨w.heap.size + 1, 0, none⟩ = false := HB2.out.frozen 0
    have c8 : w3.cell? ⟨w.heap.size + 1, 0, none⟩ = some (.int .i64 0) := HB2.out.cell 0
    have z9 : (w3.setCell ⟨w.heap.size + 1, 0, none⟩ (.int .i64 0)).frozen? ⟨w.heap.size + 1 + 1, 0, none⟩ = false := hB3.frozen 0
    have c9 : (w3.setCell ⟨w.heap.size + 1, 0, none⟩ (.int .i64 0)).cell? ⟨w.heap.size + 1 + 1, 0, none⟩ = some (.int .i64 0) := hB3.cell 0
    have r8 : ((w3.setCell ⟨w.heap.size + 1, 0, none⟩ (.int .i64 0)).setCell ⟨w.heap.size + 1 + 1, 0, none⟩ (.int .i64 15)).cell? ⟨w.heap.size + 1, 0, none⟩ = some (.int .i64 0) := hB2'.cell 0
    have r9 : ((w3.setCell ⟨w.heap.size + 1, 0, none⟩ (.int .i64 0)).setCell ⟨w.heap.size + 1 + 1, 0, none⟩ (.int .i64 15)).cell? ⟨w.heap.size + 1 + 1, 0, none⟩ = some (.int .i64 15) := hB3'.cell 0
    have HR := Lib.hid (And.intro r8 r9)
    have HFF := Lib.hid (And.intro hF1 hF2)
    clear hF1 hB2 hB3 hF2 hB3' hB2' r8 r9
    go_wp2_with fail
    all_goals
      have r8 := HR.out.1
      have r9 := HR.out.2
      refine bodyPost_ret (v := .tuple #[.int .i64 0, .int .i64 15]) ?_ rfl ⟨rfl, ?_⟩
      · simp [results, hres, go_sem, r8, r9]
      · exact (HF.out.trans_new HFF.out.1 (fun i h => .inr (by omega))).trans_new HFF.out.2 (fun i h => .inr (by omega))

end Go.Proofs.Ytlnffcledpccjaa
/-
  Copy; what has been written is read.
-/
namespace Go.Proofs.Ytlnffcledpccjaa
set_option linter.unusedVariables false
set_option linter.unusedSimpArgs false
open Go.ChangeShapes Go.WideShapes Go.ChangeAt
open Go.RowKit
section
variable {w0 w : World} {A : Pa} {bb rm gm nf sz cap k o : Nat} {C : Nat × Nat → List Nat} {X : Nat → Prop}
set_option maxHeartbeats 4000000 in
set_option maxRecDepth 100000 in
theorem MCopy_ok (h : S1 w0 A bb rm gm nf sz cap C k o X w) (M M2 num num2 pages pages2 most most2 capped capped2 to at_ n : Nat) (wide wide2 : Bool) (hM : Blk w M 117 (mmC A.p num pages most capped wide)) (hM2 : Blk w M2 117 (mmC A.p num2 pages2 most2 capped2 wide2)) (hX : X M) (hX2 : X M2) (hp : pages ≤ 65536) (hp2 : pages2 ≤ 65536) (hb : to + n ≤ pages * 65536) (hb2 : at_ + n ≤ pages2 * 65536) (hsz : 16 ≤ sz) (hsz2 : sz ≤ 1024) (hnum : num ≤ 9223372036854775807) (hnum2 : num2 ≤ 9223372036854775807) (hn : n ≤ 1048576) (ho : o + 3 * (n / sz + 2) + 3 * (n / sz + 2) < 900000) (hk : k + (n / sz + 2) ≤ cap) :
    Calls Try.prog 33 #[.pointer (some ⟨M, 0, none⟩), .pointer (some ⟨M2, 0, none⟩), .int .u64 to, .int .u64 at_, .int .u64 n] w (StP w0 A bb rm gm nf sz cap (wrm C num sz to (mbs C num2 sz at_ n) n) (k + (n / sz + 2)) (o + 3 * (n / sz + 2) + 3 * (n / sz + 2)) X w) := by
  have hb1' := beyond_ok M A.p num pages most capped to 0 n wide hM hp (by omega) (by omega) (by omega)
  rw [show bey pages to 0 n = false from decide_eq_false (by omega)] at hb1'
  have hb2' := beyond_ok M2 A.p num2 pages2 most2 capped2 at_ 0 n wide2 hM2 hp2 (by omega) (by omega) (by omega)
  rw [show bey pages2 at_ 0 n = false from decide_eq_false (by omega)] at hb2'
  have HB1 : Hid (Calls Try.prog 52 #[.pointer (some ⟨M, 0, none⟩), .int .u64 to, .int .u64 0, .int .u64 n] w fun e w' => e = .returned (.bool false) ∧ w = w') := Lib.hid hb1'
  have HB2 : Hid (Calls Try.prog 52 #[.pointer (some ⟨M2, 0, none⟩), .int .u64 at_, .int .u64 0, .int .u64 n] w fun e w' => e = .returned (.bool false) ∧ w = w') := Lib.hid hb2'
  have HR := Lib.hid (mread_ok h M2 num2 pages2 most2 capped2 at_ n wide2 hM2 hX2 hsz hsz2 hnum2 (by omega) hn (by omega) (by omega))
  have HW := Lib.hid (fun (g : Nat) (w2 : World) (h4 : S1 w0 A bb rm gm nf sz cap C k (o + 3 * (n / sz + 2)) (fun q => X q ∨ q = g) w2) (h3 : Byt w2 (some ⟨g, 0, none⟩) n n (mbs C num2 sz at_ n)) (h5 : KX w0 X w w2) =>
    mwrite_ok h4 M num pages most capped to n n wide (some ⟨g, 0, none⟩) _ (((KX.fr h5).block M hM.lt (fun q => q.2 hX)).trans hM) (.inl hX) h3 (fun g' e _ => .inl (.inr (by simpa using e.symm))) hsz hsz2 hnum (by omega) hn (by omega) hk)
  clear hb1' hb2' h hM hM2
  go_enter Try.func33, Try.ntmps33
  go_wp2_with fail
  with_reducible refine HB1.out.mono ?_
  rintro e w1 ⟨rfl, rfl⟩
  go_wp2_with fail
  with_reducible refine HB2.out.mono ?_
  rintro e w1 ⟨rfl, rfl⟩
  go_wp2_with fail
  with_reducible refine HR.out.mono ?_
  rintro e w2 hP
  unfold MrP at hP
  obtain ⟨g, rfl, h1, h2, h3, h4⟩ := hP
  have HWW := Lib.hid (HW.out g w2 h3 h2 h4)
  have HKX := Lib.hid h4
  clear h1 h2 h3 h4
  go_wp2_with fail
  with_reducible refine HWW.out.mono ?_
  rintro e w3 hP
  unfold MwP at hP
  obtain ⟨rfl, h5, h6⟩ := hP
  have H5 := Lib.hid (And.intro h5 h6)
  clear h5 h6
  go_wp2_with fail
  go_ret2
  exact ⟨rfl, H5.out.1.less (fun q hq => .inl hq), HKX.out.trans (H5.out.2.less (fun q hq => .inl hq))⟩
end
theorem mbs_wrm {C : Nat × Nat → List Nat} {num sz place n : Nat} {l : List Nat} (hC : ∀ x, (C x).length = sz) (hs : 0 < sz) (hl : l.length = n) : mbs (wrm C num sz place l n) num sz place n = l := by
  apply List.ext_getElem
  · simp [mbs, hl]
  · intro i h1 h2
    simp only [mbs, List.getElem_map, List.getElem_range, mby]
    have hi : i < n := by omega
    have e := Nat.div_add_mod (place + i) sz
    have e2 : (place + i) / sz * sz + (place + i) % sz = place + i := by rw [Nat.mul_comm]; exact e
    have hm : (place + i) % sz < sz := Nat.mod_lt _ hs
    rw [List.getD_eq_getElem?_getD, wrm_get (x := (num, (place + i) / sz)) rfl hm]
    simp only [e2]
    rw [if_pos (by omega), show place + i - place = i from by omega]
    simp [List.getD_eq_getElem?_getD, h2]

end Go.Proofs.Ytlnffcledpccjaa
/-
  Cap, Wide.
-/
namespace Go.Proofs.Ytlnffcledpccjaa
set_option linter.unusedVariables false
set_option linter.unusedSimpArgs false
open Go.ChangeShapes Go.WideShapes Go.ChangeAt
open Go.RowKit
set_option maxRecDepth 100000 in
theorem Cap_ok {w : World} (M pg num pages most capped : Nat) (c : Int) (wide : Bool) (hM : Blk w M 117 (mmC pg num pages most capped wide)) (hm : most ≤ 65536) :
    Calls Try.prog 36 #[.pointer (some ⟨M, 0, none⟩), .int .i64 c] w fun e w' => e = .returned (.bool true) ∧ Fr (fun q => q = M) w w' ∧ Blk w' M 117 (mmC pg num pages most (if c < 0 then most else min c.toNat most) wide) := by
  have c3 : w.cell? ⟨M, 3, none⟩ = some (.int .i64 most) := hM.cell 3
  have c4 : w.cell? ⟨M, 4, none⟩ = some (.int .i64 capped) := hM.cell 4
  have z4 : w.frozen? ⟨M, 4, none⟩ = false := hM.frozen 4
  have b1 : Blk (w.setCell ⟨M, 4, none⟩ (.int .i64 most)) M 117 (mmC pg num pages most most wide) := hM.set_ 4 (.int .i64 most)
  have c3' : (w.setCell ⟨M, 4, none⟩ (.int .i64 most)).cell? ⟨M, 3, none⟩ = some (.int .i64 most) := b1.cell 3
  have c4' : (w.setCell ⟨M, 4, none⟩ (.int .i64 most)).cell? ⟨M, 4, none⟩ = some (.int .i64 most) := b1.cell 4
  have z4' : (w.setCell ⟨M, 4, none⟩ (.int .i64 most)).frozen? ⟨M, 4, none⟩ = false := b1.frozen 4
  have HB := Lib.hid b1
  have HF := Lib.hid ((Fr.refl (fun q => q = M) w).set_ (p := ⟨M, 4, none⟩) rfl (.int .i64 most))
  clear hM b1
  by_cases hc : c < 0
  · rw [if_pos hc]
    go_enter Try.func36, Try.ntmps36
    go_wp2_with fail
    go_ret
    exact ⟨rfl, HF.out, HB.out⟩
  · rw [if_neg hc]
    obtain ⟨n, rfl⟩ := Int.eq_ofNat_of_zero_le (show 0 ≤ c by omega)
    rw [Int.toNat_natCast]
    have HB2 := Lib.hid (fun (x : Nat) => (show Blk ((w.setCell ⟨M, 4, none⟩ (.int .i64 most)).setCell ⟨M, 4, none⟩ (.int .i64 x)) M 117 (mmC pg num pages most x wide) from HB.out.set_ 4 (.int .i64 x)))
    have HF2 := Lib.hid (fun (x : Nat) => HF.out.set_ (p := ⟨M, 4, none⟩) rfl (.int .i64 x))
    by_cases hx : n ≤ most
    · rw [Nat.min_eq_left hx]
      go_enter Try.func36, Try.ntmps36
      go_wp2_with fail
      all_goals first
        | (exfalso; omega)
        | (go_ret; exact ⟨rfl, HF2.out n, HB2.out n⟩)
    · rw [Nat.min_eq_right (by omega)]
      go_enter Try.func36, Try.ntmps36
      go_wp2_with fail
      all_goals first
        | (exfalso; omega)
        | (go_ret; exact ⟨rfl, HF2.out most, HB2.out most⟩)
theorem Wide_ok {w : World} (M pg num pages most capped : Nat) (wide : Bool) (hM : Blk w M 117 (mmC pg num pages most capped wide)) :
    Calls Try.prog 25 #[.pointer (some ⟨M, 0, none⟩)] w fun e w' => e = .returned (.bool wide) ∧ ∃ k, w' = w.drewN k := by
  have c5 : w.cell? ⟨M, 5, none⟩ = some (.bool wide) := hM.cell 5
  clear hM
  go_enter Try.func25, Try.ntmps25
  go_wp2_with fail
  first
    | (go_ret; exact ⟨rfl, 0, rfl⟩)
    | (go_quiet (fail); go_wp2; go_ret; exact ⟨rfl, _, rfl⟩)

end Go.Proofs.Ytlnffcledpccjaa
