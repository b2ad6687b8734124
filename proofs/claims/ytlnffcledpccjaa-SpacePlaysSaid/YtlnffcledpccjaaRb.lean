/-
  The parts of an access, page by page: what the iterator hands to each round.
-/
import Derived.RangeFuncNested
import Derived.RangeFuncBound
import Derived.RangeFuncCalls
import Derived.RangeFuncLeaves
import Derived.Shelf.Abstract
import Derived.WalkKit
import Derived.OwnWalkIn
import Derived.TacticsInMore
import Derived.LoopNIn
import Derived.LoopIn
import Derived.Test.YtlnffcledpccjaaRa
namespace Go.Proofs.Ytlnffcledpccjaa
open Go.RowKit Go.Shelf
set_option linter.unusedVariables false
attribute [local go_sem] Oper.semAt_some
/-- where the next part begins -/
def nxt (place n sz fr : Nat) : Nat := min n (fr + (sz - (place + fr) % sz))
def prt (place n sz fr : Nat) : Value := .agg #[.int .i64 ((place + fr) / sz : Nat), .int .i64 ((place + fr) % sz : Nat), .int .i64 (fr : Nat), .int .i64 (nxt place n sz fr : Nat)]
set_option maxHeartbeats 2000000 in
set_option maxRecDepth 100000 in
theorem parts_it (m l Bm Bn Bp M pg sz n place : Nat) (J : Nat → World → Prop) (hsz : 16 ≤ sz) (hsz2 : sz ≤ 1024) (hn : n ≤ 4611686018427387904) (hpl : place + n ≤ 4611686018427387904)
    (hst : ∀ k W v, J k W → J k (W.setCell ⟨Bp, 0, none⟩ v))
    (hc : ∀ k W, J k W → W.cell? ⟨Bm, 0, none⟩ = some (.pointer (some ⟨M, 0, none⟩)) ∧ W.cell? ⟨M, 0, none⟩ = some (.pointer (some ⟨pg, 0, none⟩)) ∧ W.cell? ⟨Bn, 0, none⟩ = some (.int .i64 n) ∧ Calls Try.prog 54 #[.pointer (some ⟨pg, 0, none⟩)] W fun e w' => e = .returned (.int .i64 sz) ∧ W = w')
    (hY : ∀ fr W, fr < n → J fr W → Blk W Bp 56 #[.int .u64 (place + fr : Nat)] → YieldAt Fence.wide m Try.prog l #[prt place n sz fr] W fun e W' => e = .returned (.bool true) ∧ J (nxt place n sz fr) W' ∧ Blk W' Bp 56 #[.int .u64 (place + fr : Nat)])
    (W : World) (h0 : J 0 W) (hb : Blk W Bp 56 #[.int .u64 (place : Nat)]) :
    CallsIn Fence.wide (m + 1) Try.prog 73 #[.func (.yield l) #[] #[], .pointer (some ⟨Bm, 0, none⟩), .pointer (some ⟨Bn, 0, none⟩), .pointer (some ⟨Bp, 0, none⟩)] W fun e W' => (∃ v, e = .returned v) ∧ J n W' := by
  obtain ⟨c0, c1, c2, hS⟩ := hc 0 W h0
  have HS := Lib.hid hS
  have HC := Lib.hid hc
  have HST := Lib.hid hst
  have HY := Lib.hid hY
  have HJ := Lib.hid h0
  have HB := Lib.hid hb
  clear hc hst hY hS h0 hb
  refine callsIn_of_wp Try.func73 rfl trivial ?_ rfl
  simp only [Try.ntmps73, List.size_toArray, List.length_cons, List.length_nil, Nat.reduceAdd, Nat.reduceSub, Array.replicate_succ, Array.replicate_zero, List.push_toArray, List.append_toArray, List.nil_append, List.cons_append]
  gi_wp2_with (refine ⟨trivial, ?_⟩; gi_at_call 54; refine (callsIn_wide.2 HS.out).mono ?_; rintro e w1 ⟨rfl, rfl⟩)
  clear c0 c1
  gi_loopw [6] (fun v6 wr => ∃ fr x : Nat, fr ≤ n ∧ v6 = .int .i64 fr ∧ Hid (J fr wr) ∧ Hid (Blk wr Bp 56 #[.int .u64 (x : Nat)]) ∧ (fr < n → x = place + fr)) (fun v6 _ => n - (intOf v6).toNat)
  case atStart => exact ⟨0, place, Nat.zero_le _, rfl, HJ, HB, fun _ => rfl⟩
  case round =>
    obtain ⟨fr, x, hfr, rfl, HJ, HB, hx⟩ := hrel
    have d2 : wr.cell? ⟨Bn, 0, none⟩ = some (.int .i64 n) := (HC.out fr wr HJ.out).2.2.1
    by_cases hlt : fr < n
    · have hx' := hx hlt
      have d3 : wr.cell? ⟨Bp, 0, none⟩ = some (.int .u64 (x : Int)) := HB.out.cell 0
      have z3 := HB.out.frozen 0
      have hyy := HY.out fr wr hlt HJ.out (by rw [← hx']; exact HB.out)
      rw [← hx'] at hyy
      have HX := Lib.hid hx'
      have hx62 : x ≤ 4611686018427387904 := by omega
      obtain ⟨r, hr⟩ : ∃ r, r = x % sz := ⟨_, rfl⟩
      obtain ⟨q, hq⟩ : ∃ q, q = x / sz := ⟨_, rfl⟩
      have hrs : r < sz := by rw [hr]; exact Nat.mod_lt _ (by omega)
      have hqx : q ≤ x := by rw [hq]; exact Nat.div_le_self _ _
      have er : (x : Int) % (sz : Int) = (r : Int) := by rw [hr]; rfl
      have eq : (x : Int) / (sz : Int) = (q : Int) := by rw [hq]; rfl
      have enx : nxt place n sz fr = min n (fr + (sz - r)) := by unfold nxt; rw [← hx', ← hr]
      have epr : prt place n sz fr = .agg #[.int .i64 (q : Nat), .int .i64 (r : Nat), .int .i64 (fr : Nat), .int .i64 (min n (fr + (sz - r)) : Nat)] := by unfold prt; rw [enx, ← hx', ← hr, ← hq]
      rw [enx, epr] at hyy
      clear enx epr hr hq hx hx'
      by_cases hmn : fr + (sz - r) < n
      · have em : min n (fr + (sz - r)) = fr + (sz - r) := by omega
        have ec : ((fr + (sz - r) : Nat) : Int) = (fr : Int) + ((sz : Int) - (r : Int)) := by omega
        rw [em, ec] at hyy
        obtain ⟨fn, tmps, assign, body, hy2, hR⟩ := hyy
        gi_wp2
        refine hR.mono ?_
        rintro e W' ⟨rfl, hJ', hB'⟩
        have d3' : W'.cell? ⟨Bp, 0, none⟩ = some (.int .u64 (x : Int)) := hB'.cell 0
        have z3' := hB'.frozen 0
        have HJ2 := Lib.hid (HST.out _ W' (.int .u64 ((x : Int) + ((sz : Int) - (r : Int)))) hJ')
        have HB2 : Hid (Blk (W'.setCell ⟨Bp, 0, none⟩ (.int .u64 ((x : Int) + ((sz : Int) - (r : Int))))) Bp 56 #[.int .u64 ((x + (sz - r) : Nat) : Int)]) := Lib.hid (by
          have h1 := hB'.set_ 0 (.int .u64 ((x : Int) + ((sz : Int) - (r : Int))))
          rw [show ((x + (sz - r) : Nat) : Int) = (x : Int) + ((sz : Int) - (r : Int)) by omega]
          exact h1)
        clear hJ' hB' d3 z3
        gi_wp2
        go_roundw
        case rel => exact ⟨fr + (sz - r), x + (sz - r), by omega, by go_num, HJ2, HB2, fun _ => by have := HX.out; omega⟩
        case measure => simp [intOf]; omega
      · have em : min n (fr + (sz - r)) = n := by omega
        rw [em] at hyy
        obtain ⟨fn, tmps, assign, body, hy2, hR⟩ := hyy
        gi_wp2
        refine hR.mono ?_
        rintro e W' ⟨rfl, hJ', hB'⟩
        have d3' : W'.cell? ⟨Bp, 0, none⟩ = some (.int .u64 (x : Int)) := hB'.cell 0
        have z3' := hB'.frozen 0
        have HJ2 := Lib.hid (HST.out _ W' (.int .u64 ((x : Int) + ((sz : Int) - (r : Int)))) hJ')
        have HB2 : Hid (Blk (W'.setCell ⟨Bp, 0, none⟩ (.int .u64 ((x : Int) + ((sz : Int) - (r : Int))))) Bp 56 #[.int .u64 ((x + (sz - r) : Nat) : Int)]) := Lib.hid (by
          have h1 := hB'.set_ 0 (.int .u64 ((x : Int) + ((sz : Int) - (r : Int))))
          rw [show ((x + (sz - r) : Nat) : Int) = (x : Int) + ((sz : Int) - (r : Int)) by omega]
          exact h1)
        clear hJ' hB' d3 z3
        gi_wp2
        go_roundw
        case rel => exact ⟨n, x + (sz - r), by omega, by go_num, HJ2, HB2, fun _ => by have := HX.out; omega⟩
        case measure => simp [intOf]; omega
    · obtain rfl : fr = n := by omega
      gi_wp2
      go_end0
      exact ⟨⟨_, rfl⟩, HJ.out⟩
end Go.Proofs.Ytlnffcledpccjaa
