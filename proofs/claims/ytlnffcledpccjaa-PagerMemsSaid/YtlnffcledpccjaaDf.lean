/-
  pager.Pager.Drop.
-/
import Derived.Test.YtlnffcledpccjaaDd
import Derived.WalkKit
import Derived.ProofKit
import Derived.OpenShut
import Derived.ShutString
import Derived.ChangeOld
import Derived.Below
namespace Go.Proofs.Ytlnffcledpccjaa
set_option linter.unusedVariables false
set_option linter.unusedSimpArgs false
open Go.RowKit
theorem PgRow.slice {w : World} {v : Value} {M : List (Nat × Nat)} (h : PgRow w v M) : ∃ (B : Option Addr) (cap : Nat), v = .slice B M.length cap ∧ M.length ≤ cap ∧ cap ≤ maxLen ∧ (0 < M.length → ∃ g, B = some ⟨g, 0, none⟩ ∧ g < w.heap.size ∧ ∀ i, i < M.length → w.cell? ⟨g, i * 2, none⟩ = some (I64 (M.getD i (0, 0)).1) ∧ w.cell? ⟨g, i * 2 + 1, none⟩ = some (I64 (M.getD i (0, 0)).2)) := by
  rcases h with ⟨rfl, rfl⟩ | ⟨g, cap, rfl, h1, h2, h3, h4⟩
  · exact ⟨none, 0, rfl, Nat.le_refl _, Nat.zero_le _, fun q => absurd q (Nat.lt_irrefl _)⟩
  · exact ⟨_, cap, rfl, h1, h2, fun _ => ⟨g, rfl, h3, h4⟩⟩
def DpPost (A : Pa) (d : Pd) (mem : List Nat) (C : Nat × Nat → List Nat) (W : List (Nat × Nat)) (m : Nat) (w : World) (e : Ending) (w' : World) : Prop :=
  e = .returned (.int .i64 0) ∧ ∃ d', Mv A d d' mem (drp C m d.sd.size) W 4096 w w'
theorem cell_heap {w w' : World} {g i : Nat} (h : w'.heap[g]? = w.heap[g]?) : w'.cell? ⟨g, i, none⟩ = w.cell? ⟨g, i, none⟩ := by
  unfold World.cell?
  rw [h]
set_option maxHeartbeats 4000000 in
set_option maxRecDepth 100000 in
theorem Drop_ok (hso : SortOk) {w : World} {A : Pa} {d : Pd} {mem : List Nat} {C : Nat × Nat → List Nat} {W : List (Nat × Nat)} (h : Lay w A d) (hp : PI d mem C W (fun _ => False)) (m : Nat) (hm : m ≤ 9223372036854775807) (ho : d.sd.ops < 900000) :
    Calls Try.prog 17 #[.pointer (some ⟨A.p, 0, none⟩), .int .i64 m] w (DpPost A d mem C W m w) := by
  have HW_ := Lib.hid (works_ok h)
  have hk := kept_ok hso h m
  unfold KptPost at hk
  have HKp := Lib.hid hk
  have HSM : Hid (∀ x, d.blk x ≠ none → small x) := Lib.hid (fun x hx => h.bls.small hx)
  have HFT : Hid (∀ q, foot A d q → q < w.heap.size) := Lib.hid (fun q hq => h.flt hq)
  have HD0 : Hid (∀ M : List (Nat × Nat), DrI A d d mem C W m M 0 w w) := Lib.hid (fun M => ⟨h, hp.weak _, rfl, rfl, rfl, rfl, Nat.le_refl _, rfl, rfl, rfl, fun x => by simp, Fr.refl _ _, fun q hq => hq⟩)
  have hn2 := h.n2
  clear h hp hk
  go_enter Try.func17, Try.ntmps17
  go_wp2_with (first
    | (go_at_call 43; refine HW_.out.mono ?_; rintro e w1 ⟨rfl, rfl⟩)
    | (go_at_call 44
       refine HKp.out.mono ?_
       rintro e w2 ⟨v, M, rfl, hrow, hnd, hl, hit, hf, hfresh⟩
       obtain ⟨B, cap, rfl, hc1, hc2, hc3⟩ := hrow.slice
       have HC := Lib.hid hc3
       have HND := Lib.hid hnd
       have HIT := Lib.hid hit
       have HFR := Lib.hid hfresh
       have HF2 := Lib.hid hf
       have HDS : Hid (DrI A d d mem C W m M 0 w w2) := Lib.hid ((HD0.out M).quiet hf)
       clear hrow hnd hit hf hfresh hc3))
  have hcm : cap ≤ 9223372036854775807 := by unfold maxLen at hc2; omega
  go_loopw [22] (fun v22 wr => ∃ (k : Nat) (d1 : Pd), k ≤ M.length ∧ v22 = .int .i64 k ∧ Hid (DrI A d d1 mem C W m M k w wr) ∧ Hid (∀ q, w.heap.size ≤ q → q < w2.heap.size → wr.heap[q]? = w2.heap[q]?)) (fun v22 _ => M.length - (intOf v22).toNat)
  case atStart => exact ⟨0, d, Nat.zero_le _, rfl, HDS, Lib.hid (fun _ _ _ => rfl)⟩
  case round =>
    obtain ⟨k, d1, hk, rfl, HD, HQ⟩ := hrel
    by_cases hlt : k < M.length
    · obtain ⟨g, rfl, hg, hcell⟩ := HC.out (by omega)
      have hgf := HFR.out g rfl
      have c0 : wr.cell? ⟨g, k * 2, none⟩ = some (I64 (M.getD k (0, 0)).1) := (cell_heap (HQ.out g hgf hg)).trans (hcell k hlt).1
      have c1 : wr.cell? ⟨g, k * 2 + 1, none⟩ = some (I64 (M.getD k (0, 0)).2) := (cell_heap (HQ.out g hgf hg)).trans (hcell k hlt).2
      have hxm : M.getD k (0, 0) ∈ M := by rw [List.getD_eq_getElem?_getD, List.getElem?_eq_getElem hlt]; exact List.getElem_mem _
      obtain ⟨x, hx⟩ : ∃ x, M.getD k (0, 0) = x := ⟨_, rfl⟩
      rw [hx] at c0 c1 hxm
      obtain ⟨hxb, hx1⟩ := (HIT.out x).1 hxm
      have hxs := HSM.out x hxb
      have hnt : x ∉ M.take k := fun q => by
        have h1 := HND.out
        rw [← List.take_append_drop k M, List.nodup_append] at h1
        refine h1.2.2 x q x ?_ rfl
        rw [List.drop_eq_getElem_cons hlt, ← hx, List.getD_eq_getElem?_getD, List.getElem?_eq_getElem hlt]
        exact List.mem_cons_self
      have hb1 : d1.blk x = d.blk x := by rw [HD.out.blk x, if_neg hnt]
      obtain ⟨id, hid⟩ : ∃ id, d1.blk x = some id := by
        cases q : d1.blk x with
        | none => rw [hb1] at q; exact absurd q hxb
        | some id => exact ⟨id, rfl⟩
      obtain ⟨xa, xb⟩ := x
      obtain ⟨o1, ho1⟩ : ∃ o1, o1 = Obj.cells #[Value.int IntKind.i64 (xa : Int), Value.int IntKind.i64 (xb : Int)] 104 := ⟨_, rfl⟩
      have hd2 : DrI A d d1 mem C W m M k w (wr.alloc o1) := HD.out.quiet ((Fr.refl _ wr).alloc o1)
      have HFy := Lib.hid (free_yes hd2.lay xa xb id hxs hid (hd2.pi.bin _ _ hid) (by have := hd2.ops; omega))
      have HX : Hid (M.getD k (0, 0) = (xa, xb) ∧ xa = m ∧ d1.blk (xa, xb) = some id) := Lib.hid ⟨hx, hx1, hid⟩
      have HD2 := Lib.hid hd2
      have HWR : Hid (w.heap.size ≤ wr.heap.size ∧ g < wr.heap.size) := Lib.hid ⟨HD.out.fr.size, by
        rcases Nat.lt_or_ge g wr.heap.size with q | q
        · exact q
        · have h1 := HQ.out g hgf hg
          rw [Array.getElem?_eq_none q, Array.getElem?_eq_getElem hg] at h1
          cases h1⟩
      have d0 : wr.cell? ⟨g, k * 2, none⟩ = some (.int .i64 (xa : Int)) := c0
      have d1' : wr.cell? ⟨g, k * 2 + 1, none⟩ = some (.int .i64 (xb : Int)) := c1
      clear hcell c0 c1 hxm hx hxb hx1 hxs hnt hb1 hid hd2
      subst ho1
      go_wp2_with (go_at_call 45
                   refine HFy.out.mono ?_
                   rintro e w3 ⟨rfl, hl3, hf3⟩
                   have HD3 := Lib.hid (HD2.out.step hlt HX.out.1 HX.out.2.1 HX.out.2.2 hl3 hf3)
                   have HQ3 : Hid (∀ q, w.heap.size ≤ q → q < w2.heap.size → w3.heap[q]? = w2.heap[q]?) := Lib.hid (fun q h1 h2 => by
                     have hqr : q < wr.heap.size := by
                       rcases Nat.lt_or_ge q wr.heap.size with p | p
                       · exact p
                       · have h3 := HQ.out q h1 h2
                         rw [Array.getElem?_eq_none p, Array.getElem?_eq_getElem h2] at h3
                         cases h3
                     rw [hf3.block q (by rw [World.size_alloc]; omega) (fun hq => by have := HFT.out q (frS_foot hq); omega), Below.heap_alloc _ _ q hqr]
                     exact HQ.out q h1 h2)
                   clear hl3 hf3)
      go_roundw
      case rel => exact ⟨k + 1, _, by omega, by go_num, HD3, HQ3⟩
      case measure => simp [intOf]; omega
    · obtain rfl : k = M.length := by omega
      have c2 : wr.cell? ⟨A.p, 2, none⟩ = some (.slice (some ⟨A.fb, 0, none⟩) d1.n A.cap) := HD.out.lay.blk.cell 2
      have hd1n : d1.n = d.n := HD.out.n
      rw [hd1n] at c2
      have HV0 : Hid (DvI A d d1 mem C W m M.length 0 w wr) := Lib.hid ⟨HD.out.lay, HD.out.pi, HD.out.n, HD.out.room, HD.out.size, HD.out.cap, HD.out.ops, fun k hk => ⟨by rw [← HD.out.ch]; exact hk, by rw [HD.out.pg]⟩, fun x hx => by
        rw [HD.out.blk x, List.take_length]
        by_cases e : x ∈ M
        · rw [if_pos e]
        · rw [if_neg e]
          cases q : d.blk x with
          | none => rfl
          | some id => exact absurd ((HIT.out x).2 ⟨by rw [q]; exact fun e => (by cases e), hx⟩) e, fun j hj => absurd hj (Nat.not_lt_zero _), HD.out.fr, HD.out.ft⟩
      clear hd1n
      have HML : Hid (M.length ≤ 4096) := Lib.hid hl
      generalize M.length = N at HV0 HML hc1 hl hcm
      clear HD HQ HDS HC HND HIT HFR HD0 HF2 hk hlt
      go_wp2_with fail
      go_loopw [38] (fun v38 wr => ∃ (i : Nat) (d2 : Pd), i ≤ d.n ∧ v38 = .int .i64 i ∧ Hid (DvI A d d2 mem C W m N i w wr)) (fun v38 _ => d.n - (intOf v38).toNat)
      case atStart => exact ⟨0, d1, Nat.zero_le _, rfl, HV0⟩
      case round =>
        obtain ⟨i, d2, hi, rfl, HV⟩ := hrel
        by_cases hlt : i < d.n
        · have hi2 : i < d2.n := by rw [HV.out.n]; exact hlt
          have hL := HV.out.lay
          have f0 : wr.cell? ⟨A.fb, i * 6, none⟩ = some (.int .i64 (d2.room i)) := hL.fcell hi2 0 rfl
          have f1 : wr.cell? ⟨A.fb, i * 6 + 1, none⟩ = some (.int .i64 (d2.pg i).1) := hL.fcell hi2 1 rfl
          have f2 : wr.cell? ⟨A.fb, i * 6 + 2, none⟩ = some (.int .i64 (d2.pg i).2) := hL.fcell hi2 2 rfl
          have f3 : wr.cell? ⟨A.fb, i * 6 + 3, none⟩ = some (.bool (d2.tk i)) := hL.fcell hi2 3 rfl
          have f4 : wr.cell? ⟨A.fb, i * 6 + 4, none⟩ = some (.bool (d2.th i)) := hL.fcell hi2 4 rfl
          have f5 : wr.cell? ⟨A.fb, i * 6 + 5, none⟩ = some (.bool (d2.ch i)) := hL.fcell hi2 5 rfl
          obtain ⟨o1, ho1⟩ : ∃ o1, o1 = Obj.cells #[Value.int IntKind.i64 (d2.room i : Int), Value.int IntKind.i64 ((d2.pg i).1 : Int), Value.int IntKind.i64 ((d2.pg i).2 : Int), .bool (d2.tk i), .bool (d2.th i), .bool (d2.ch i)] 106 := ⟨_, rfl⟩
          have HV2 : Hid (DvI A d d2 mem C W m N i w (wr.alloc o1)) := Lib.hid (HV.out.quiet ((Fr.refl _ wr).alloc o1))
          have HVc := Lib.hid (vacate_ok HV2.out.lay i hi2 (HV.out.pi.sm i hi2))
          unfold VcPost at HVc
          have HT : Hid (d2.tk i = true → (d2.pg i).1 = m → ∀ w', Lay w' A (d2.vac i) → Fr (fun k => k = A.sm ∨ k = A.fb) (wr.alloc o1) w' → DvI A d (d2.vac i) mem C W m N (i + 1) w w') := Lib.hid (fun h1 h2 w' h3 h4 => HV2.out.vac hlt h1 h2 h3 h4)
          have HN : Hid ((d2.tk i = true → ¬ (d2.pg i).1 = m) → DvI A d d2 mem C W m N (i + 1) w (wr.alloc o1)) := Lib.hid (fun q => HV2.out.next q)
          clear hL HV2 HV hi2
          generalize d2.room i = rr at f0 ho1
          generalize d2.th i = tth at f4 ho1
          generalize d2.ch i = cch at f5 ho1
          generalize (d2.pg i).2 = p2 at f2 ho1
          cases ht : d2.tk i with
          | false =>
            rw [ht] at f3 ho1
            have HN2 := Lib.hid (HN.out (fun q => (by rw [ht] at q; cases q)))
            generalize (d2.pg i).1 = p1 at f1 ho1
            clear HT HN HVc ht
            subst ho1
            go_wp2
            go_roundw
            case rel => exact ⟨i + 1, d2, by omega, by go_num, HN2⟩
            case measure => simp [intOf]; omega
          | true =>
            rw [ht] at f3 ho1
            by_cases hpm : (d2.pg i).1 = m
            · have HT2 := Lib.hid (HT.out ht hpm)
              rw [hpm] at f1 ho1
              have hee : ((m : Int) == (m : Int)) = true := by simp
              clear HT HN ht hpm
              subst ho1
              go_wp2_with (go_at_call 46
                           refine HVc.out.mono ?_
                           rintro e w3 ⟨rfl, hl3, hf3⟩
                           have HV3 := Lib.hid (HT2.out _ hl3 hf3)
                           clear hl3 hf3)
              go_roundw
              case rel => exact ⟨i + 1, _, by omega, by go_num, HV3⟩
              case measure => simp [intOf]; omega
            · have HN2 := Lib.hid (HN.out (fun _ => hpm))
              have hee : (((d2.pg i).1 : Int) == (m : Int)) = false := by simp; omega
              clear HT HN HVc ht hpm
              generalize (d2.pg i).1 = p1 at f1 ho1 hee
              subst ho1
              go_wp2
              go_roundw
              case rel => exact ⟨i + 1, d2, by omega, by go_num, HN2⟩
              case measure => simp [intOf]; omega
        · obtain rfl : i = d.n := by omega
          go_wp2
          go_ret
          have hv := HV.out.done
          exact ⟨rfl, d2, ⟨hv.lay, hv.pi, hv.n, hv.room, hv.size, hv.cap, by have := hv.ops; have := HML.out; omega, hv.fr, hv.ft, hv.chg⟩⟩
end Go.Proofs.Ytlnffcledpccjaa
