/-
  bytes.Repeat of one byte.
-/
import Derived.Test.YtlnffcledpccjaaWt
import Derived.BigQuiet
import Derived.Lib.MakeNoZero
import Derived.Deep.RegionHeld3
import Derived.OwnWalk
import Derived.WalkKit
import Derived.ProofKit
import Derived.OpenShut
import Derived.ShutString
import Derived.ChangeOld
import Derived.Below
namespace Go.Proofs.Ytlnffcledpccjaa
set_option linter.unusedVariables false
set_option linter.unusedSimpArgs false
open Go.ChangeShapes Go.WideShapes Go.ChangeAt
open Go.RowKit
theorem and_32 (n : Nat) (hn : n < 4294967296) : bits BinOp.and IntKind.u64 (n : Int) 4294967295 = (n : Int) := by
  have h : n &&& 4294967295 = n := by
    have := Nat.and_two_pow_sub_one_eq_mod n 32
    rw [show (2:Nat)^32 - 1 = 4294967295 from rfl] at this
    rw [this]; exact Nat.mod_eq_of_lt hn
  have h2 := bits_and_u64_nat n 4294967295 (by omega) (by omega)
  rw [h] at h2
  exact h2
theorem mul64_ok (w : World) (n : Nat) (hn : n ≤ 8192) :
    Calls Try.prog 85 #[.int .u64 1, .int .u64 n] w fun e w' => e = .returned (.tuple #[.int .u64 0, .int .u64 n]) ∧ w = w' := by
  have hb1 : bits BinOp.and IntKind.u64 1 4294967295 = 1 := and_32 1 (by decide)
  have hb2 := and_32 n (by omega)
  have hb3 : bits BinOp.and IntKind.u64 0 4294967295 = 0 := and_32 0 (by decide)
  have hq : (n : Int) / 4294967296 = 0 := by omega
  go_enter Try.func85, Try.ntmps85
  go_wp2_with fail
  go_ret2
  exact ⟨rfl, rfl⟩
theorem mul_ok (w : World) (n : Nat) (hn : n ≤ 8192) :
    Calls Try.prog 71 #[.int .u64 1, .int .u64 n] w fun e w' => e = .returned (.tuple #[.int .u64 0, .int .u64 n]) ∧ w = w' := by
  go_enter Try.func71, Try.ntmps71
  go_wp2_with (go_at_call 85; refine (mul64_ok _ n hn).mono ?_; rintro e w1 ⟨rfl, rfl⟩)
  go_ret2
  exact ⟨rfl, rfl⟩
theorem mkz_run (n : Nat) (hn : n ≤ 8192) (w : World) : ∃ cs : Array Value, (callFunc 72 #[.int .i64 n]).run Try.prog w = .ok (.value (.slice (some ⟨w.heap.size, 0, none⟩) n cs.size)) (w.drew.drew.alloc (.cells cs 5)) ∧ n ≤ cs.size ∧ cs.size ≤ maxLen := by
  obtain ⟨cs, hr, h1, h2⟩ := Lib.run_makeNoZero (P := Try.prog) w #[3] 34 5 Try.underlying34 n (by omega)
  refine ⟨cs, ?_, h1, h2 (by unfold maxLen; omega)⟩
  rw [run_callFunc_extern Try.func72 (by kernel_rfl) (by kernel_rfl) (by kernel_rfl) (e := Extern.BytealgMakeNoZero.makeNoZero #[3] #[34]) (by kernel_rfl), hr]
  rfl
set_option maxHeartbeats 2000000 in
set_option maxRecDepth 100000 in
theorem Rep_ok (g v n : Nat) (w : World) (hc : w.cell? ⟨g, 0, none⟩ = some (.int .u8 v)) (hg : g < w.heap.size) (hv : v < 256) (h1 : 1 ≤ n) (hn : n ≤ 1024) :
    Calls Try.prog 53 #[.slice (some ⟨g, 0, none⟩) 1 1, .int .i64 n] w fun e w' => ∃ g2, e = .returned (.slice (some ⟨g2, 0, none⟩) n n) ∧ w.heap.size ≤ g2 ∧ Byt w' (some ⟨g2, 0, none⟩) n n (List.replicate n v) ∧ Fr (fun _ => False) w w' := by
  obtain ⟨i0, hi, hz0, hz1, hz2⟩ := info_parts info5
  obtain ⟨cs, hr, hcs, hcm⟩ := mkz_run n (by omega) w
  have hcm9 : cs.size ≤ 9223372036854775807 := hcm
  have HC : Hid (w.cell? ⟨g, 0, none⟩ = some (.int .u8 v)) := Lib.hid hc
  obtain ⟨wa, hwa⟩ : ∃ wa, wa = w.drew.drew.alloc (.cells cs 5) := ⟨_, rfl⟩
  have hfa : Fr (fun _ => False) w wa := by rw [hwa]; exact ((Fr.refl _ w).drewN 2).alloc _
  have hba : Blk wa w.heap.size 5 cs := by rw [hwa]; exact Blk.new (w.drewN 2) 5 cs
  have HCA : Hid (wa.cell? ⟨g, 0, none⟩ = some (.int .u8 v)) := Lib.hid (by
    rw [← hc]; unfold World.cell?; rw [hfa.block g hg (fun q => q)])
  rw [← hwa] at hr
  have HFA := Lib.hid hfa
  have HFB : Hid (Below w.heap.size w wa) := Lib.hid (hfa.below (Below.refl _ _) (Nat.le_refl _) (fun q e => e.elim))
  have HBA : Hid (Blk wa w.heap.size 5 cs.toList.toArray) := Lib.hid (by simpa using hba)
  have HX1 := Lib.hid (u8_one [v])
  clear hc hwa hfa hba
  go_enter Try.func53, Try.ntmps53
  go_wp2_with (first
    | (go_at_call 71; refine (mul_ok _ n (by omega)).mono ?_; rintro e w1 ⟨rfl, rfl⟩)
    | (with_reducible refine wpList_copy_fr rfl (.tmp 58) (.tmp 59) 34 34 rfl 5 Try.underlying34 info5size (some ⟨w.heap.size, 0, none⟩) (some ⟨g, 0, none⟩) n n 1 1 rfl rfl w.heap.size 0 cs.toList 5 HBA.out ([v].map U8) ?d1 ?d2 ?d3 HX1.out ?_
       case d1 => exact (Nat.min_eq_left h1).symm
       case d2 => exact fun _ => ⟨rfl, _, rfl, fun j x hx => by
         cases j with
         | zero => simp at hx; subst hx; exact HCA.out
         | succ j => simp at hx⟩
       case d3 => simp; omega
       intro w3 hg3 hf3
       have HF3 : Hid (Below w.heap.size w w3) := Lib.hid (hf3.below HFB.out HFB.out.size (fun q e => by rw [e]; exact Nat.le_refl _))
       clear hf3))
  have HG0 : Hid (∃ cur : List Value, Blk w3 w.heap.size 5 cur.toArray ∧ cur.length = cs.size ∧ ∀ j, j < 1 → cur[j]? = some (U8 v)) := Lib.hid ⟨_, hg3.out, by simp [splice]; omega, fun j hj => by
    obtain rfl : j = 0 := by omega
    simp [splice]⟩
  clear hg3
  go_loopw [10] (fun i wr => ∃ bp : Nat, 1 ≤ bp ∧ bp ≤ n ∧ i = .int .i64 bp ∧ Hid (∃ cur : List Value, Blk wr w.heap.size 5 cur.toArray ∧ cur.length = cs.size ∧ ∀ j, j < bp → cur[j]? = some (U8 v)) ∧ Hid (Below w.heap.size w wr)) (fun i _ => n - (intOf i).toNat)
  case atStart => exact ⟨1, Nat.le_refl _, h1, rfl, HG0, HF3⟩
  case round =>
    obtain ⟨bp, hp1, hp2, rfl, HG, HF⟩ := hrel
    by_cases hlt : bp < n
    · obtain ⟨cur, hbw, hcl, hcv⟩ := HG.out
      have HFd : Hid (Below w.heap.size w wr.drew) := Lib.hid (((Fr.refl (fun _ => False) wr).drewN 1).below HF.out HF.out.size (fun q e => e.elim))
      have hcutA : ∀ W, (Instr.slice 34 (.slice (some ⟨w.heap.size, 0, none⟩) n n) (some (.int .i64 (bp : Int))) none none).run Try.prog W = .ok (.slice (some ⟨w.heap.size, bp, none⟩) (n - bp) (n - bp)) W := fun W => by
        rw [run_slice_l (P := Try.prog) W 34 (some ⟨w.heap.size, 0, none⟩) n n el34 .i64 (bp : Int) (by omega) (by omega), sz34]
        have hne : n ≠ bp := by omega
        have hz : bp ≠ 0 := by omega
        simp [Result.andThen, sliced, hne, hz, Addr.add]
      have hcutB : ∀ W, (Instr.slice 34 (.slice (some ⟨w.heap.size, 0, none⟩) n n) none (some (.int .i64 (bp : Int))) none).run Try.prog W = .ok (.slice (some ⟨w.heap.size, 0, none⟩) bp n) W := fun W => by
        rw [run_slice_h (P := Try.prog) W 34 (some ⟨w.heap.size, 0, none⟩) n n el34 .i64 (bp : Int) (by omega) (by omega), sz34]
        simp [Result.andThen, sliced, Addr.add]
      go_wp2_with fail
      refine wp_region_held_drew (S := (fun _ => True)) (by kernel_rfl) trivial (fun hHeld => ?_)
      refine wpAnyH_take (i := 0) (oi := ?oi_1) (v := ?_) ?hi_1 (by kernel_rfl) ?hf_1 (by kernel_rfl) ?hQ_1 ?hy_1 (by assumption) ?_
      case hi_1 => simp only [List.getElem?_toArray, List.getElem?_cons_zero, List.getElem?_cons_succ]; rfl
      case hf_1 => kernel_rfl
      case hQ_1 => exact fun _ _ _ h => h
      case hy_1 =>
        refine Or.inl ⟨by rfl, ?_⟩
        intro W hSw
        go_simp
        try with_reducible rfl
      try simp only [Act.put, List.setIfInBounds_toArray, List.set_cons_zero, List.set_cons_succ]
      refine wpAnyH_take (i := 1) (oi := ?oi_2) (v := ?_) ?hi_2 (by kernel_rfl) ?hf_2 (by kernel_rfl) ?hQ_2 ?hy_2 (by assumption) ?_
      case hi_2 => simp only [List.getElem?_toArray, List.getElem?_cons_zero, List.getElem?_cons_succ]; rfl
      case hf_2 => kernel_rfl
      case hQ_2 => exact fun _ _ _ h => h
      case hy_2 =>
        refine Or.inl ⟨by rfl, ?_⟩
        intro W hSw
        go_simp
        try with_reducible rfl
      try simp only [Act.put, List.setIfInBounds_toArray, List.set_cons_zero, List.set_cons_succ]
      refine wpAnyH_take (i := 2) (oi := ?oi_3) (v := ?_) ?hi_3 (by kernel_rfl) ?hf_3 (by kernel_rfl) ?hQ_3 ?hy_3 (by assumption) ?_
      case hi_3 => simp only [List.getElem?_toArray, List.getElem?_cons_zero, List.getElem?_cons_succ]; rfl
      case hf_3 => kernel_rfl
      case hQ_3 => exact fun _ _ _ h => h
      case hy_3 =>
        refine Or.inl ⟨by rfl, ?_⟩
        intro W hSw
        go_simp
        try with_reducible rfl
      try simp only [Act.put, List.setIfInBounds_toArray, List.set_cons_zero, List.set_cons_succ]
      refine wpAnyH_take (i := 3) (oi := ?oi_4) (v := ?_) ?hi_4 (by kernel_rfl) ?hf_4 (by kernel_rfl) ?hQ_4 ?hy_4 (by assumption) ?_
      case hi_4 => simp only [List.getElem?_toArray, List.getElem?_cons_zero, List.getElem?_cons_succ]; rfl
      case hf_4 => kernel_rfl
      case hQ_4 => exact fun _ _ _ h => h
      case hy_4 =>
        refine Or.inl ⟨by rfl, ?_⟩
        intro W hSw
        have q0 := hcutA W
        go_simp
        try with_reducible rfl
      try simp only [Act.put, List.setIfInBounds_toArray, List.set_cons_zero, List.set_cons_succ]
      refine wpAnyH_take (i := 4) (oi := ?oi_5) (v := ?_) ?hi_5 (by kernel_rfl) ?hf_5 (by kernel_rfl) ?hQ_5 ?hy_5 (by assumption) ?_
      case hi_5 => simp only [List.getElem?_toArray, List.getElem?_cons_zero, List.getElem?_cons_succ]; rfl
      case hf_5 => kernel_rfl
      case hQ_5 => exact fun _ _ _ h => h
      case hy_5 =>
        refine Or.inl ⟨by rfl, ?_⟩
        intro W hSw
        go_simp
        try with_reducible rfl
      try simp only [Act.put, List.setIfInBounds_toArray, List.set_cons_zero, List.set_cons_succ]
      refine wpAnyH_take (i := 5) (oi := ?oi_6) (v := ?_) ?hi_6 (by kernel_rfl) ?hf_6 (by kernel_rfl) ?hQ_6 ?hy_6 (by assumption) ?_
      case hi_6 => simp only [List.getElem?_toArray, List.getElem?_cons_zero, List.getElem?_cons_succ]; rfl
      case hf_6 => kernel_rfl
      case hQ_6 => exact fun _ _ _ h => h
      case hy_6 =>
        refine Or.inl ⟨by rfl, ?_⟩
        intro W hSw
        go_simp
        try with_reducible rfl
      try simp only [Act.put, List.setIfInBounds_toArray, List.set_cons_zero, List.set_cons_succ]
      refine wpAnyH_take (i := 6) (oi := ?oi_7) (v := ?_) ?hi_7 (by kernel_rfl) ?hf_7 (by kernel_rfl) ?hQ_7 ?hy_7 (by assumption) ?_
      case hi_7 => simp only [List.getElem?_toArray, List.getElem?_cons_zero, List.getElem?_cons_succ]; rfl
      case hf_7 => kernel_rfl
      case hQ_7 => exact fun _ _ _ h => h
      case hy_7 =>
        refine Or.inl ⟨by rfl, ?_⟩
        intro W hSw
        have q0 := hcutB W
        go_simp
        try with_reducible rfl
      try simp only [Act.put, List.setIfInBounds_toArray, List.set_cons_zero, List.set_cons_succ]
      refine wpAnyH_ready (rs := [7]) (by kernel_rfl) (by simp) ?_
      refine AllReadyH.cons (o := ?oi_8) ?hi_8 (fun K hK => ?_) AllReadyH.nil
      case hi_8 => simp only [List.getElem?_toArray, List.getElem?_cons_zero, List.getElem?_cons_succ]; rfl
      refine step_copy_splice rfl (.tmp 70) (.tmp 73) 34 34 rfl 5 Try.underlying34 info5size (some ⟨w.heap.size, bp, none⟩) (some ⟨w.heap.size, 0, none⟩) (n - bp) (n - bp) bp n rfl rfl w.heap.size bp cur 5 (hbw.drewN 1) (List.replicate (Nat.min bp (n - bp)) (U8 v)) (by simp) (fun _ => ⟨rfl, _, rfl, fun j x hx => by
        rw [List.getElem?_replicate] at hx
        split at hx
        · rename_i hj
          cases hx
          have := (hbw.drewN 1).cell j
          rw [List.getElem?_toArray, hcv j (Nat.lt_of_lt_of_le hj (Nat.min_le_left _ _))] at this
          rcases j with _ | j <;> simpa [Addr.add] using this
        · cases hx⟩) (by rw [List.length_replicate, hcl]; exact Nat.le_trans (Nat.add_le_add_left (Nat.min_le_right bp (n - bp)) bp) (by omega)) (fun x hx => by rw [List.mem_replicate] at hx; rw [hx.2]; rfl) w.heap.size w HFd.out (Nat.le_refl _) ?_
      intro w5 hg5 hb5
      have HB5 := Lib.hid hb5
      clear hb5
      refine hK.out _ _ trivial (fun hHeld => ?_)
      clear hK K
      try simp only [Act.put, List.setIfInBounds_toArray, List.set_cons_zero, List.set_cons_succ]
      refine wpAnyH_take (i := 8) (oi := ?oi_9) (v := ?_) ?hi_9 (by kernel_rfl) ?hf_9 (by kernel_rfl) ?hQ_9 ?hy_9 (by assumption) ?_
      case hi_9 => simp only [List.getElem?_toArray, List.getElem?_cons_zero, List.getElem?_cons_succ]; rfl
      case hf_9 => kernel_rfl
      case hQ_9 => exact fun _ _ _ h => h
      case hy_9 =>
        refine Or.inl ⟨by rfl, ?_⟩
        intro W hSw
        go_simp
        try with_reducible rfl
      try simp only [Act.put, List.setIfInBounds_toArray, List.set_cons_zero, List.set_cons_succ]
      refine wpAnyH_take (i := 9) (oi := ?oi_10) (v := ?_) ?hi_10 (by kernel_rfl) ?hf_10 (by kernel_rfl) ?hQ_10 ?hy_10 (by assumption) ?_
      case hi_10 => simp only [List.getElem?_toArray, List.getElem?_cons_zero, List.getElem?_cons_succ]; rfl
      case hf_10 => kernel_rfl
      case hQ_10 => exact fun _ _ _ h => h
      case hy_10 =>
        refine Or.inl ⟨by rfl, ?_⟩
        intro W hSw
        go_simp
        try with_reducible rfl
      try simp only [Act.put, List.setIfInBounds_toArray, List.set_cons_zero, List.set_cons_succ]
      refine wpAnyH_done (by kernel_rfl) ?_ _
      clear hHeld
      have hg6 := hg5.out
      obtain ⟨m, hm⟩ : ∃ m, m = Nat.min bp (n - bp) := ⟨_, rfl⟩
      have hm1 : 1 ≤ m := by rw [hm]; exact Nat.le_min.2 ⟨hp1, by omega⟩
      have hm2 : m ≤ n - bp := by rw [hm]; exact Nat.min_le_right _ _
      rw [List.length_replicate, ← hm]
      rw [← hm] at hg6
      have hw : IntKind.i64.wrap ((bp : Int) + (m : Int)) = ((bp + m : Nat) : Int) := by rw [IntKind.wrap_i64]; omega
      rw [hw]
      clear hw
      simp only [Exit.inBlock]
      go_round
      case rel => refine ⟨_, _, _, _, _, _, _, _, _, _, _, _, _, _, _, _, _, ⟨bp + m, by omega, by omega, rfl, Lib.hid ⟨_, hg6, by simp [splice]; omega, fun j hj => by
          unfold splice
          rw [List.getElem?_append]
          split
          · rename_i hj2
            rw [List.length_take] at hj2
            rw [List.getElem?_take_of_lt (by omega)]
            exact hcv j (by omega)
          · rename_i hj2
            rw [List.length_take, Nat.min_eq_left (by omega)] at hj2 ⊢
            rw [List.getElem?_append_left (by rw [List.length_replicate]; omega), List.getElem?_replicate, if_pos (by omega)]⟩, HB5⟩, rfl⟩
      case measure => simp [intOf]; omega
    · obtain rfl : n = bp := by omega
      go_wp2_with fail
      go_ret
      obtain ⟨cur, hbw, hcl, hcv⟩ := HG.out
      refine ⟨w.heap.size, rfl, Nat.le_refl _, ⟨by simp, fun x hx => by rw [List.mem_replicate] at hx; rw [hx.2]; exact hv, Nat.le_refl _, by unfold maxLen; omega, fun _ => ⟨_, _, rfl, hbw.lt, fun j hj => ?_⟩⟩, Fr.of_below HF.out⟩
      rw [Nat.zero_add, hbw.cell j, List.getElem?_toArray, hcv j hj, List.getD_eq_getElem?_getD, List.getElem?_replicate, if_pos hj]
      rfl

end Go.Proofs.Ytlnffcledpccjaa
