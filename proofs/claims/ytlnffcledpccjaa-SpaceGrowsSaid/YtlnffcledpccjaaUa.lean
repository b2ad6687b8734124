/-
  What keeps an access from being done, and Load and Store.
-/
import Derived.Test.YtlnffcledpccjaaRg
import Derived.BigQuiet
import Derived.OwnWalk
import Derived.WalkKit
import Derived.ProofKit
import Derived.OpenShut
import Derived.ShutString
import Derived.ChangeOld
import Derived.Below
namespace Go.Proofs.Ytlnffcledpccjaa
set_option linter.unusedVariables false
set_option linter.unusedSimpArgs false
open Go.ChangeShapes Go.WideShapes Go.ChangeAt
open Go.RowKit
set_option maxRecDepth 100000 in
theorem SpNew_ok (pg num pages most : Nat) (wide : Bool) (w : World) (h1 : pages ≤ most) (h2 : most ≤ 65536) (h3 : num ≤ 9223372036854775807) :
    Calls Try.prog 24 #[.pointer (some ⟨pg, 0, none⟩), .int .i64 num, .int .i64 pages, .int .i64 most, .bool wide] w fun e w' => e = .returned (.tuple #[.pointer (some ⟨w.heap.size, 0, none⟩), .int .i64 0]) ∧ w' = w.alloc (.cells (mmC pg num pages most most wide) 117) := by
  go_enter Try.func24, Try.ntmps24
  go_wp2
  go_ret2
  exact ⟨rfl, rfl⟩
set_option maxRecDepth 100000 in
theorem SpNew_nil (a b c : Int) (wide : Bool) (w : World) :
    Calls Try.prog 24 #[.pointer none, .int .i64 a, .int .i64 b, .int .i64 c, .bool wide] w fun e w' => e = .returned (.tuple #[.pointer none, .int .i64 12]) ∧ w = w' := by
  go_enter Try.func24, Try.ntmps24
  go_wp2
  go_ret2
  exact ⟨rfl, rfl⟩
set_option maxRecDepth 100000 in
theorem SpNew_arg (pg : Nat) (a b c : Int) (wide : Bool) (w : World) (h : a < 0 ∨ (0 ≤ a ∧ b < 0) ∨ (0 ≤ a ∧ 0 ≤ b ∧ c < b) ∨ (0 ≤ a ∧ 0 ≤ b ∧ b ≤ c ∧ 65536 < c)) :
    Calls Try.prog 24 #[.pointer (some ⟨pg, 0, none⟩), .int .i64 a, .int .i64 b, .int .i64 c, .bool wide] w fun e w' => e = .returned (.tuple #[.pointer none, .int .i64 1]) ∧ w = w' := by
  rcases h with h | ⟨h1, h⟩ | ⟨h1, h2, h⟩ | ⟨h1, h2, h3, h⟩
  all_goals
    go_enter Try.func24, Try.ntmps24
    go_wp2
    go_ret2
    exact ⟨rfl, rfl⟩
theorem Grow_nil (n : Int) (w : World) : Calls Try.prog 34 #[.pointer none, .int .u64 n] w fun e w' => e = .returned (.tuple #[.int .i64 0, .bool false]) ∧ ∃ k, w' = w.drewN k := by
  have e0 : decide True = true := rfl
  go_enter Try.func34, Try.ntmps34
  go_wp2_with fail
  go_quiet (fail)
  go_wp2
  go_ret2
  exact ⟨rfl, _, rfl⟩
set_option maxRecDepth 100000 in
theorem asked_nil (a b c : Int) (w : World) : Calls Try.prog 48 #[.pointer none, .int .u64 a, .int .u64 b, .int .i64 c] w fun e w' => e = .returned (.tuple #[.int .i64 0, .int .i64 12]) ∧ w = w' := by
  go_enter Try.func48, Try.ntmps48
  go_wp2
  go_ret2
  exact ⟨rfl, rfl⟩
set_option maxRecDepth 100000 in
theorem asked_neg (M : Nat) (a b c : Int) (w : World) (h : c < 0) : Calls Try.prog 48 #[.pointer (some ⟨M, 0, none⟩), .int .u64 a, .int .u64 b, .int .i64 c] w fun e w' => e = .returned (.tuple #[.int .i64 0, .int .i64 1]) ∧ w = w' := by
  go_enter Try.func48, Try.ntmps48
  go_wp2
  go_ret2
  exact ⟨rfl, rfl⟩
set_option maxRecDepth 100000 in
theorem asked_long (M : Nat) (a b c : Int) (w : World) (h : 1048576 < c) : Calls Try.prog 48 #[.pointer (some ⟨M, 0, none⟩), .int .u64 a, .int .u64 b, .int .i64 c] w fun e w' => e = .returned (.tuple #[.int .i64 0, .int .i64 15]) ∧ w = w' := by
  go_enter Try.func48, Try.ntmps48
  go_wp2
  go_ret2
  exact ⟨rfl, rfl⟩
/-- whether n bytes from at+off on are not all in the pages -/
def bey (pages at_ off n : Nat) : Bool := decide (pages * 65536 < at_ + off + n)
set_option maxHeartbeats 1000000 in
set_option maxRecDepth 100000 in
theorem beyond_ok {w : World} (M pg num pages most capped at_ off n : Nat) (wide : Bool) (hM : Blk w M 117 (mmC pg num pages most capped wide)) (hp : pages ≤ 65536) (h1 : at_ ≤ 18446744073709551615) (h2 : off ≤ 18446744073709551615) (h3 : n ≤ 18446744073709551615) :
    Calls Try.prog 52 #[.pointer (some ⟨M, 0, none⟩), .int .u64 at_, .int .u64 off, .int .u64 n] w fun e w' => e = .returned (.bool (bey pages at_ off n)) ∧ w = w' := by
  have c2 : w.cell? ⟨M, 2, none⟩ = some (.int .i64 pages) := hM.cell 2
  clear hM
  have eI0 : Sem.run Try.prog (Instr.index 143 (Value.agg #[Value.int IntKind.u64 ↑at_, Value.int IntKind.u64 ↑off, Value.int IntKind.u64 ↑n]) (Value.int IntKind.i64 0)) w = .ok (.int .u64 at_) w := by kernel_rfl
  have eI1 : Sem.run Try.prog (Instr.index 143 (Value.agg #[Value.int IntKind.u64 ↑at_, Value.int IntKind.u64 ↑off, Value.int IntKind.u64 ↑n]) (Value.int IntKind.i64 1)) w = .ok (.int .u64 off) w := by kernel_rfl
  have eI2 : Sem.run Try.prog (Instr.index 143 (Value.agg #[Value.int IntKind.u64 ↑at_, Value.int IntKind.u64 ↑off, Value.int IntKind.u64 ↑n]) (Value.int IntKind.i64 2)) w = .ok (.int .u64 n) w := by kernel_rfl
  have HI0 := Lib.hid eI0
  have HI1 := Lib.hid eI1
  have HI2 := Lib.hid eI2
  clear eI0 eI1 eI2
  go_enter Try.func52, Try.ntmps52
  go_wp2
  go_loop [9, 22] (fun v9 v22 => ∃ (i left : Nat), i ≤ 3 ∧ v9 = .int .u64 left ∧ v22 = .int .i64 i ∧ (i = 0 → left = pages * 65536) ∧ (i = 1 → left + at_ = pages * 65536) ∧ (i = 2 → left + at_ + off = pages * 65536) ∧ (i = 3 → left + at_ + off + n = pages * 65536)) (fun _ v22 => 3 - (intOf v22).toNat)
  case atStart => exact ⟨0, pages * 65536, by omega, by go_num, rfl, fun _ => rfl, fun e => by omega, fun e => by omega, fun e => by omega⟩
  case round =>
    obtain ⟨i, left, hi, rfl, rfl, g0, g1, g2, g3⟩ := hrel
    rcases (by omega : i = 0 ∨ i = 1 ∨ i = 2 ∨ i = 3) with rfl | rfl | rfl | rfl
    · have g0 := g0 rfl
      clear g1 g2 g3
      have hb0 : left ≤ 18446744073709551615 := by omega
      by_cases hx : left < at_
      · go_wp2
        rw [HI0.out]
        go_wp2
        go_ret
        exact ⟨ret_bool (decide_eq_true (by omega)).symm, rfl⟩
      · go_wp2
        rw [HI0.out]
        go_wp2
        go_round
        case rel => exact ⟨1, left - at_, by omega, by go_num, by go_num, fun e => by omega, fun e => by omega, fun e => by omega, fun e => by omega⟩
        case measure => simp [intOf]
    · have g1 := g1 rfl
      clear g0 g2 g3
      have hb1 : left ≤ 18446744073709551615 := by omega
      by_cases hx : left < off
      · go_wp2
        rw [HI1.out]
        go_wp2
        go_ret
        exact ⟨ret_bool (decide_eq_true (by omega)).symm, rfl⟩
      · go_wp2
        rw [HI1.out]
        go_wp2
        go_round
        case rel => exact ⟨2, left - off, by omega, by go_num, by go_num, fun e => by omega, fun e => by omega, fun e => by omega, fun e => by omega⟩
        case measure => simp [intOf]
    · have g2 := g2 rfl
      clear g1 g0 g3
      have hb2 : left ≤ 18446744073709551615 := by omega
      by_cases hx : left < n
      · go_wp2
        rw [HI2.out]
        go_wp2
        go_ret
        exact ⟨ret_bool (decide_eq_true (by omega)).symm, rfl⟩
      · go_wp2
        rw [HI2.out]
        go_wp2
        go_round
        case rel => exact ⟨3, left - n, by omega, by go_num, by go_num, fun e => by omega, fun e => by omega, fun e => by omega, fun e => by omega⟩
        case measure => simp [intOf]
    · have g3 := g3 rfl
      clear g1 g2 g0
      go_wp2
      go_ret
      exact ⟨ret_bool (decide_eq_false (by omega)).symm, rfl⟩
set_option maxRecDepth 100000 in
theorem asked_ok {w : World} (M pg num pages most capped at_ off n : Nat) (wide : Bool) (hM : Blk w M 117 (mmC pg num pages most capped wide)) (hp : pages ≤ 65536) (h1 : at_ ≤ 18446744073709551615) (h2 : off ≤ 18446744073709551615) (h3 : n ≤ 1048576) :
    Calls Try.prog 48 #[.pointer (some ⟨M, 0, none⟩), .int .u64 at_, .int .u64 off, .int .i64 n] w fun e w' => e = .returned (.tuple #[.int .i64 (if bey pages at_ off n = true then 4 else 0), .int .i64 0]) ∧ w = w' := by
  have HB := Lib.hid (beyond_ok M pg num pages most capped at_ off n wide hM hp h1 h2 (by omega))
  clear hM
  cases hb : bey pages at_ off n with
  | true =>
    rw [hb] at HB
    go_enter Try.func48, Try.ntmps48
    go_wp2_with (go_at_call 52; refine HB.out.mono ?_; rintro e w1 ⟨rfl, rfl⟩)
    go_ret2
    exact ⟨rfl, rfl⟩
  | false =>
    rw [hb] at HB
    go_enter Try.func48, Try.ntmps48
    go_wp2_with (go_at_call 52; refine HB.out.mono ?_; rintro e w1 ⟨rfl, rfl⟩)
    go_ret2
    exact ⟨rfl, rfl⟩
/-- Load: of any numbers that are asked for without end -/
theorem Load_err (B : Option Nat) (a b c : Int) (w : World) (T E : Int) (hTE : T ≠ 0 ∨ (T = 0 ∧ E ≠ 0)) (h : ∀ p : Value, p = .pointer (B.map (⟨·, 0, none⟩)) → Calls Try.prog 48 #[p, .int .u64 a, .int .u64 b, .int .i64 c] w fun e w' => e = .returned (.tuple #[.int .i64 T, .int .i64 E]) ∧ w = w') :
    Calls Try.prog 26 #[.pointer (B.map (⟨·, 0, none⟩)), .int .u64 a, .int .u64 b, .int .i64 c] w fun e w' => e = .returned (.tuple #[.slice none 0 0, .int .i64 T, .int .i64 E]) ∧ w = w' := by
  have HH := Lib.hid (h _ rfl)
  clear h
  rcases hTE with h0 | ⟨rfl, h0⟩
  · have hne : (T != 0) = true := by simpa using h0
    go_enter Try.func26, Try.ntmps26
    go_wp2_with (go_at_call 48; refine HH.out.mono ?_; rintro e w1 ⟨rfl, rfl⟩)
    refine bodyPost_ret (results_tmp3 rfl _ _ _) rfl ?_
    exact ⟨rfl, rfl⟩
  · have hne : (E != 0) = true := by simpa using h0
    go_enter Try.func26, Try.ntmps26
    go_wp2_with (go_at_call 48; refine HH.out.mono ?_; rintro e w1 ⟨rfl, rfl⟩)
    refine bodyPost_ret (results_tmp3 rfl _ _ _) rfl ?_
    exact ⟨rfl, rfl⟩
theorem Store_err (B : Option Nat) (a b : Int) (S : Option Addr) (n cp : Nat) (hn : n ≤ cp) (hcp : cp ≤ maxLen) (w : World) (T E : Int) (hTE : T ≠ 0 ∨ (T = 0 ∧ E ≠ 0)) (h : ∀ p : Value, p = .pointer (B.map (⟨·, 0, none⟩)) → Calls Try.prog 48 #[p, .int .u64 a, .int .u64 b, .int .i64 n] w fun e w' => e = .returned (.tuple #[.int .i64 T, .int .i64 E]) ∧ w = w') :
    Calls Try.prog 29 #[.pointer (B.map (⟨·, 0, none⟩)), .int .u64 a, .int .u64 b, .slice S n cp] w fun e w' => e = .returned (.tuple #[.int .i64 T, .int .i64 E]) ∧ w = w' := by
  have HH := Lib.hid (h _ rfl)
  clear h
  have hcp9 : cp ≤ 9223372036854775807 := by unfold maxLen at hcp; omega
  rcases hTE with h0 | ⟨rfl, h0⟩
  · have hne : (T != 0) = true := by simpa using h0
    go_enter Try.func29, Try.ntmps29
    go_wp2_with (go_at_call 48; refine HH.out.mono ?_; rintro e w1 ⟨rfl, rfl⟩)
    go_ret2
    exact ⟨rfl, rfl⟩
  · have hne : (E != 0) = true := by simpa using h0
    go_enter Try.func29, Try.ntmps29
    go_wp2_with (go_at_call 48; refine HH.out.mono ?_; rintro e w1 ⟨rfl, rfl⟩)
    go_ret2
    exact ⟨rfl, rfl⟩
section
variable {w0 w : World} {A : Pa} {bb rm gm nf sz cap k o : Nat} {C : Nat × Nat → List Nat} {X : Nat → Prop}
def LdP (w0 : World) (A : Pa) (bb rm gm nf sz cap : Nat) (C : Nat × Nat → List Nat) (k o : Nat) (X : Nat → Prop) (num place n : Nat) (w : World) (e : Ending) (w' : World) : Prop :=
  ∃ g : Nat, e = .returned (.tuple #[.slice (some ⟨g, 0, none⟩) n n, .int .i64 0, .int .i64 0]) ∧ w.heap.size ≤ g ∧ Byt w' (some ⟨g, 0, none⟩) n n (mbs C num sz place n) ∧ S1 w0 A bb rm gm nf sz cap C k o (fun q => X q ∨ q = g) w' ∧ KX w0 X w w'
theorem Load_ok (h : S1 w0 A bb rm gm nf sz cap C k o X w) (M num pages most capped at_ off n : Nat) (wide : Bool) (hM : Blk w M 117 (mmC A.p num pages most capped wide)) (hX : X M) (hp : pages ≤ 65536) (hb : at_ + off + n ≤ pages * 65536) (hsz : 16 ≤ sz) (hsz2 : sz ≤ 1024) (hnum : num ≤ 9223372036854775807) (hn : n ≤ 1048576) (ho : o + 3 * (n / sz + 2) < 900000) (hk : k ≤ cap) :
    Calls Try.prog 26 #[.pointer (some ⟨M, 0, none⟩), .int .u64 at_, .int .u64 off, .int .i64 n] w (LdP w0 A bb rm gm nf sz cap C k (o + 3 * (n / sz + 2)) X num (at_ + off) n w) := by
  have ha := asked_ok M A.p num pages most capped at_ off n wide hM hp (by omega) (by omega) hn
  have hbf : bey pages at_ off n = false := decide_eq_false (by omega)
  rw [hbf, if_neg (by decide)] at ha
  have HA := Lib.hid ha
  have hr := mread_ok h M num pages most capped (at_ + off) n wide hM hX hsz hsz2 hnum (by omega) hn ho hk
  rw [Int.natCast_add] at hr
  have HR := Lib.hid hr
  have hao : at_ + off ≤ 4611686018427387904 := by omega
  clear ha hbf hr h hM
  go_enter Try.func26, Try.ntmps26
  go_wp2_with (first
    | (go_at_call 48; refine HA.out.mono ?_; rintro e w1 ⟨rfl, rfl⟩)
    | (go_at_call 49; with_reducible refine HR.out.mono ?_; rintro e w2 hP; unfold MrP at hP; obtain ⟨g, rfl, h1, h2, h3, h4⟩ := hP; have HP := Lib.hid (And.intro h1 (And.intro h2 (And.intro h3 h4))); clear h1 h2 h3 h4))
  refine bodyPost_ret (results_tmp3 rfl _ _ _) rfl ?_
  exact ⟨g, rfl, HP.out.1, HP.out.2.1, HP.out.2.2.1, HP.out.2.2.2⟩
def StP (w0 : World) (A : Pa) (bb rm gm nf sz cap : Nat) (C : Nat × Nat → List Nat) (k o : Nat) (X : Nat → Prop) (w : World) (e : Ending) (w' : World) : Prop :=
  e = .returned (.tuple #[.int .i64 0, .int .i64 0]) ∧ S1 w0 A bb rm gm nf sz cap C k o X w' ∧ KX w0 X w w'
theorem Store_ok (h : S1 w0 A bb rm gm nf sz cap C k o X w) (M num pages most capped at_ off n cp : Nat) (wide : Bool) (B : Option Addr) (l : List Nat) (hM : Blk w M 117 (mmC A.p num pages most capped wide)) (hX : X M) (hB : Byt w B n cp l) (hBx : ∀ g, B.map (·.block) = some g → 0 < n → (X g ∨ g < w0.heap.size)) (hp : pages ≤ 65536) (hb : at_ + off + n ≤ pages * 65536) (hsz : 16 ≤ sz) (hsz2 : sz ≤ 1024) (hnum : num ≤ 9223372036854775807) (hn : n ≤ 1048576) (ho : o + 3 * (n / sz + 2) < 900000) (hk : k + (n / sz + 2) ≤ cap) :
    Calls Try.prog 29 #[.pointer (some ⟨M, 0, none⟩), .int .u64 at_, .int .u64 off, .slice B n cp] w (StP w0 A bb rm gm nf sz cap (wrm C num sz (at_ + off) l n) (k + (n / sz + 2)) (o + 3 * (n / sz + 2)) X w) := by
  have ha := asked_ok M A.p num pages most capped at_ off n wide hM hp (by omega) (by omega) hn
  have hbf : bey pages at_ off n = false := decide_eq_false (by omega)
  rw [hbf, if_neg (by decide)] at ha
  have HA := Lib.hid ha
  have hr := mwrite_ok h M num pages most capped (at_ + off) n cp wide B l hM hX hB hBx hsz hsz2 hnum (by omega) hn ho hk
  rw [Int.natCast_add] at hr
  have HR := Lib.hid hr
  have hao : at_ + off ≤ 4611686018427387904 := by omega
  have hncp : n ≤ cp := hB.2.2.1
  have hcp9 : cp ≤ 9223372036854775807 := by have := hB.2.2.2.1; unfold maxLen at this; omega
  clear ha hbf hr h hM hB
  go_enter Try.func29, Try.ntmps29
  go_wp2_with (first
    | (go_at_call 48; refine HA.out.mono ?_; rintro e w1 ⟨rfl, rfl⟩)
    | (go_at_call 51; with_reducible refine HR.out.mono ?_; rintro e w2 hP; unfold MwP at hP; obtain ⟨rfl, h1, h2⟩ := hP; have HP := Lib.hid (And.intro h1 h2); clear h1 h2))
  go_ret2
  exact ⟨rfl, HP.out.1, HP.out.2⟩
end

end Go.Proofs.Ytlnffcledpccjaa
