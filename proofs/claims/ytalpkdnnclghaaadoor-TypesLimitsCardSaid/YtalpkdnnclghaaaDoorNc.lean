/-
  strings.SplitSeq at ",": what the iterator hands to each round.
-/
import Derived.RangeFuncNested
import Derived.RangeFuncBound
import Derived.RangeFuncCalls
import Derived.RangeFuncLeaves
import Derived.Shelf.Abstract
import Derived.WalkKit
import Derived.OwnWalkIn
import Derived.TacticsInMore
import Derived.LoopNIn
import Derived.LoopIn
import Derived.Test.YtalpkdnnclghaaaDoorNb
namespace Go.Proofs.YtalpkdnnclghaaaDoor
open Go.RowKit Go.Shelf
set_option linter.unusedVariables false
attribute [local go_sem] Oper.semAt_some
/-- how long a string in a cell is -/
def slen (w : World) (B : Nat) : Nat := match w.cell? ⟨B, 0, none⟩ with | some (.string s) => s.size | _ => 0
theorem slen_of {w : World} {B : Nat} {r : List UInt8} (h : w.cell? ⟨B, 0, none⟩ = some (.string ⟨r.toArray⟩)) : slen w B = r.length := by
  unfold slen; rw [h]; simp [ByteArray.size]
/-- where the first comma stands -/
def cm (r : List UInt8) : Int := Lib.indexByte r 44
theorem ib_range (c : UInt8) : ∀ r : List UInt8, -1 ≤ Lib.indexByte r c ∧ Lib.indexByte r c < (r.length : Int)
  | [] => by simp [Lib.indexByte]
  | b :: l => by
    have := ib_range c l
    simp only [Lib.indexByte, List.length_cons]
    split
    · omega
    · split <;> omega
theorem sz_of (r : List UInt8) : (⟨r.toArray⟩ : ByteArray).size = r.length := by simp [ByteArray.size]
theorem ext_take (r : List UInt8) (i : Nat) : (⟨r.toArray⟩ : ByteArray).extract 0 i = ⟨(r.take i).toArray⟩ := by
  apply ByteArray.ext
  simp [ByteArray.data_extract]
theorem ext_drop (r : List UInt8) (i : Nat) : (⟨r.toArray⟩ : ByteArray).extract i r.length = ⟨(r.drop i).toArray⟩ := by
  apply ByteArray.ext
  simp [ByteArray.data_extract]
  exact List.take_of_length_le (by simp)
set_option maxHeartbeats 2000000 in
set_option maxRecDepth 100000 in
theorem split_it (m l Bp Bs Bz : Nat) (J : List UInt8 → World → Prop) (D S : World → Prop) (s0 : List UInt8) (hlen : s0.length ≤ 4611686018427387904)
    (hst : ∀ r W v, J r W → J r (W.setCell ⟨Bs, 0, none⟩ v))
    (hc : ∀ r W, J r W → W.cell? ⟨Bp, 0, none⟩ = some (.string ⟨#[44]⟩) ∧ W.cell? ⟨Bz, 0, none⟩ = some (.int .i64 0))
    (hY : ∀ r W, (cm r : Int) ≥ 0 → J r W → Blk W Bs 9 #[.string ⟨r.toArray⟩] → YieldAt Fence.wide m Tryd.prog l #[.string ⟨(r.take (cm r).toNat).toArray⟩] W fun e W' => Blk W' Bs 9 #[.string ⟨r.toArray⟩] ∧ ((e = .returned (.bool true) ∧ J (r.drop ((cm r).toNat + 1)) W') ∨ (e = .returned (.bool false) ∧ S W')))
    (hZ : ∀ r W, (cm r : Int) < 0 → J r W → Blk W Bs 9 #[.string ⟨r.toArray⟩] → YieldAt Fence.wide m Tryd.prog l #[.string ⟨r.toArray⟩] W fun e W' => (∃ b, e = .returned (.bool b)) ∧ (D W' ∨ S W'))
    (W : World) (h0 : J s0 W) (hb : Blk W Bs 9 #[.string ⟨s0.toArray⟩]) :
    CallsIn Fence.wide (m + 1) Tryd.prog 91 #[.func (.yield l) #[] #[], .pointer (some ⟨Bp, 0, none⟩), .pointer (some ⟨Bs, 0, none⟩), .pointer (some ⟨Bz, 0, none⟩)] W fun e W' => (∃ v, e = .returned v) ∧ (D W' ∨ S W') := by
  obtain ⟨c0, c1⟩ := hc s0 W h0
  have HC := Lib.hid hc
  have HST := Lib.hid hst
  have HY := Lib.hid hY
  have HZ := Lib.hid hZ
  have HJ := Lib.hid h0
  have HB := Lib.hid hb
  clear hc hst hY hZ h0 hb
  refine callsIn_of_wp Tryd.func91 rfl trivial ?_ rfl
  simp only [Tryd.ntmps91, List.size_toArray, List.length_cons, List.length_nil, Nat.reduceAdd, Nat.reduceSub, Array.replicate_succ, Array.replicate_zero, List.push_toArray, List.append_toArray, List.nil_append, List.cons_append]
  gi_wp2_with fail
  clear c0 c1
  gi_loopw [] (fun wr => ∃ r : List UInt8, r.length ≤ 4611686018427387904 ∧ Hid (J r wr) ∧ Hid (Blk wr Bs 9 #[.string ⟨r.toArray⟩])) (fun wr => slen wr Bs)
  case atStart => exact ⟨s0, hlen, HJ, HB⟩
  case round =>
    obtain ⟨r, hr, HJ, HB⟩ := hrel
    obtain ⟨d0, d1⟩ := HC.out r wr HJ.out
    have d3 : wr.cell? ⟨Bs, 0, none⟩ = some (.string ⟨r.toArray⟩) := HB.out.cell 0
    have z3 := HB.out.frozen 0
    have hcall : ∀ i : Int, cm r = i → Calls Tryd.prog 93 #[.string ⟨r.toArray⟩, .string ⟨#[44]⟩] wr fun e w' => e = .returned (.int .i64 i) ∧ w' = wr := fun i h => by
      have h2 := Tryd.strings_Index_one ⟨r.toArray⟩ 44 wr
      have h3 : Lib.indexByte (⟨r.toArray⟩ : ByteArray).data.toList 44 = i := h
      rw [h3] at h2; exact h2
    have hsz := sz_of r
    have hir := ib_range 44 r
    by_cases hlt : 0 ≤ cm r
    · have hyy := HY.out r wr hlt HJ.out HB.out
      obtain ⟨i, hi⟩ : ∃ i : Nat, cm r = (i : Int) := ⟨(cm r).toNat, by omega⟩
      have HK := Lib.hid (hcall i hi)
      have hil : i < r.length := by have h2 : Lib.indexByte r 44 = (i : Int) := hi; omega
      rw [hi, Int.toNat_natCast, ← ext_take] at hyy
      clear hir hcall hlt
      obtain ⟨fn, tmps, assign, body, hy2, hR⟩ := hyy
      gi_wp2_with (refine ⟨trivial, ?_⟩; gi_at_call 93; refine (callsIn_wide.2 HK.out).mono ?_; rintro e w1 ⟨rfl, rfl⟩)
      refine hR.mono ?_
      rintro e W' ⟨hB', ⟨rfl, hJ'⟩ | ⟨rfl, hS'⟩⟩
      · obtain ⟨f0, f1⟩ := HC.out _ W' hJ'
        have d3' : W'.cell? ⟨Bs, 0, none⟩ = some (.string ⟨r.toArray⟩) := hB'.cell 0
        have z3' := hB'.frozen 0
        have HJ2 := Lib.hid (fun v => HST.out _ W' v hJ')
        have HB2 := Lib.hid (fun v => hB'.set_ 0 v)
        clear hJ' hB' d0 d1 d3 z3
        gi_wp2
        go_roundw
        case rel =>
          refine ⟨r.drop (i + 1), by simp; omega, HJ2.out _, Lib.hid ?_⟩
          have h := HB2.out (.string ((⟨r.toArray⟩ : ByteArray).extract (i + 1) r.length))
          rw [ext_drop] at h ⊢
          exact h
        case measure =>
          have h := (HB2.out (.string ((⟨r.toArray⟩ : ByteArray).extract (i + 1) r.length))).cell 0
          have h1 : (W'.setCell ⟨Bs, 0, none⟩ (.string ((⟨r.toArray⟩ : ByteArray).extract (i + 1) r.length))).cell? ⟨Bs, 0, none⟩ = some (.string ⟨(r.drop (i + 1)).toArray⟩) := by
            rw [ext_drop] at h ⊢
            exact h
          rw [slen_of h1, slen_of (HB.out.cell 0), List.length_drop]
          omega
      · clear d0 d1 d3 z3
        gi_wp2
        (try simp only [Exit.inBlock, Exit.then])
        refine bodyPost_ret (results_none rfl _ _ _) rfl ?_
        exact ⟨⟨_, rfl⟩, .inr hS'⟩
    · have hi : cm r = -1 := by have h2 : cm r = Lib.indexByte r 44 := rfl; omega
      have HK := Lib.hid (hcall (-1) hi)
      have hyy := HZ.out r wr (by omega) HJ.out HB.out
      clear hir hcall hlt
      obtain ⟨fn, tmps, assign, body, hy2, hR⟩ := hyy
      gi_wp2_with (refine ⟨trivial, ?_⟩; gi_at_call 93; refine (callsIn_wide.2 HK.out).mono ?_; rintro e w1 ⟨rfl, rfl⟩)
      refine hR.mono ?_
      rintro e W' ⟨⟨bb, rfl⟩, hD'⟩
      clear d0 d1 d3 z3
      gi_wp2
      go_end0
      exact ⟨⟨_, rfl⟩, hD'⟩
end Go.Proofs.YtalpkdnnclghaaaDoor
