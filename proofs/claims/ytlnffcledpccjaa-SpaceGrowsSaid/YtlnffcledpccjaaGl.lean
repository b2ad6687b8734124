/-
  pager.Pager.Read, Write of some bytes.
-/
import Derived.Test.YtlnffcledpccjaaGk
namespace Go.Proofs.Ytlnffcledpccjaa
open Go.RowKit
set_option linter.unusedVariables false
set_option linter.unusedSimpArgs false
theorem sub_read {mem l : List Nat} {r sz o n : Nat} (h : (mem.drop r).take sz = l) (ho : o + n ≤ sz) : (mem.drop (r + o)).take n = (l.drop o).take n := by
  subst h
  rw [List.drop_take, List.drop_drop, List.take_take, Nat.min_eq_left (by omega)]
def RrPost (A : Pa) (d : Pd) (bb rm gm : Nat) (ad : Ad) (C : Nat × Nat → List Nat) (W : List (Nat × Nat)) (x : Nat × Nat) (o n : Nat) (w : World) (e : Ending) (w' : World) : Prop :=
  ∃ (g j : Nat) (d' : Pd) (m' : List Nat), e = .returned (.tuple #[.slice (some ⟨g, 0, none⟩) n n, .int .i64 0]) ∧ Byt w' (some ⟨g, 0, none⟩) n n (((C x).drop o).take n) ∧ Mx A d d' bb rm gm ad m' C W 3 w w' ∧ j < d.n ∧ d'.tk j = true ∧ d'.pg j = x ∧ (∀ k, d'.ch k = true → d.ch k = true ∧ d'.pg k = d.pg k) ∧ (w.heap.size ≤ g ∧ ¬ foot A d' g)
theorem Mx.on {A : Pa} {d d' : Pd} {bb rm gm : Nat} {ad : Ad} {m' : List Nat} {C : Nat × Nat → List Nat} {W : List (Nat × Nat)} {N : Nat} {w w0 w' : World} (h : Mx A d d' bb rm gm ad m' C W N w w0) (hf : Fr (fun _ => False) w0 w') : Mx A d d' bb rm gm ad m' C W N w w' :=
  ⟨h.lay.fr hf (fun _ _ q => q), h.pi, h.are.fr hf (fun _ _ q => q), h.n, h.room, h.size, h.cap, h.ops, h.fr.trans (hf.more (fun _ q => q.elim)), h.ft, h.len, h.out⟩
set_option maxHeartbeats 2000000 in
set_option maxRecDepth 100000 in
theorem PRead_ok {w : World} {A : Pa} {d : Pd} {C : Nat × Nat → List Nat} {W : List (Nat × Nat)} {bb rm gm : Nat} {ad : Ad} (h : Lay w A d) (ha : Are w A.a bb rm gm ad) (hdis : ∀ k, ad.mine A.a bb rm gm k → ¬ foot A d k) (hp : PI d ad.mem C W (fun _ => False)) (ho : d.sd.ops < 900000) (hW : W.length ≤ d.sd.cap)
    (a b o n : Nat) (hx : small (a, b)) (hn0 : 0 < n) (hon : o + n ≤ d.sd.size) :
    Calls Try.prog 15 #[.pointer (some ⟨A.p, 0, none⟩), .int .i64 a, .int .i64 b, .int .i64 o, .int .i64 n] w (RrPost A d bb rm gm ad C W (a, b) o n w) := by
  have HB := Lib.hid (reach_ok h ha hdis hp ho hW a b o n hx hon)
  unfold WtPost at HB
  have hrin := hp.rin
  have hlim := ha.lim
  have hml := ha.len
  have HRI := Lib.hid hrin
  clear h ha hdis hp hx hrin
  go_enter Try.func15, Try.ntmps15
  go_wp2_with (go_at_call 40
               refine HB.out.mono ?_
               rintro e w1 ⟨j, d1, m1, hj, rfl, hm, ht, hpg, hch⟩
               have HM := Lib.hid hm
               have HT := Lib.hid ht
               have HPG := Lib.hid hpg; have HCHG := Lib.hid hch
               clear hm ht hpg hch)
  have hr := HRI.out j hj
  have hR : d1.room j = d.room j := by rw [HM.out.room]
  have c0 : w1.drew.cell? ⟨A.p, 0, none⟩ = some (.pointer (some ⟨A.a, 0, none⟩)) := HM.out.lay.blk.cell 0
  have f0 : w1.drew.cell? ⟨A.fb, j * 6, none⟩ = some (.int .i64 (d.room j)) := by rw [← hR]; exact (HM.out.lay.drewN 1).fcell (by rw [HM.out.n]; exact hj) 0 rfl
  have hBy := Bytes_new A.a bb rm gm { ad with mem := m1 } (d.room j + o) n w1.drew (HM.out.are.drewN 1) hn0 (by show d.room j + o + n ≤ ad.sz; omega)
  unfold BnPost at hBy
  have hwr : (d.room j : Int) + (o : Int) = IntKind.i64.wrap ((d.room j : Int) + (o : Int)) := by rw [IntKind.wrap_i64]; omega
  rw [Int.natCast_add, hwr] at hBy
  clear hwr
  have HBy := Lib.hid hBy
  have HRM := Lib.hid hR
  clear hBy hR
  refine wp_region_held_drew (S := (fun W => W.cell? ⟨A.p, 0, none⟩ = some (.pointer (some ⟨A.a, 0, none⟩)) ∧ W.cell? ⟨A.fb, j * 6, none⟩ = some (.int .i64 (d.room j)))) (by kernel_rfl) ⟨c0, f0⟩ (fun hHeld => ?_)
  refine wpAnyH_take (i := 0) (oi := ?oi_1) (v := ?_) ?hi_1 (by kernel_rfl) ?hf_1 (by kernel_rfl) ?hQ_1 ?hy_1 (by assumption) ?_
  case hi_1 => simp only [List.getElem?_toArray, List.getElem?_cons_zero, List.getElem?_cons_succ]; rfl
  case hf_1 => kernel_rfl
  case hQ_1 => exact fun _ _ _ h => h
  case hy_1 =>
    refine Or.inl ⟨by rfl, ?_⟩
    intro W hSw
    obtain ⟨q0, q1⟩ := hSw
    go_simp
    try with_reducible rfl
  try simp only [Act.put, List.setIfInBounds_toArray, List.set_cons_zero, List.set_cons_succ]
  refine wpAnyH_take (i := 1) (oi := ?oi_2) (v := ?_) ?hi_2 (by kernel_rfl) ?hf_2 (by kernel_rfl) ?hQ_2 ?hy_2 (by assumption) ?_
  case hi_2 => simp only [List.getElem?_toArray, List.getElem?_cons_zero, List.getElem?_cons_succ]; rfl
  case hf_2 => kernel_rfl
  case hQ_2 => exact fun _ _ _ h => h
  case hy_2 =>
    refine Or.inl ⟨by rfl, ?_⟩
    intro W hSw
    obtain ⟨q0, q1⟩ := hSw
    go_simp
    try with_reducible rfl
  try simp only [Act.put, List.setIfInBounds_toArray, List.set_cons_zero, List.set_cons_succ]
  refine wpAnyH_take (i := 2) (oi := ?oi_3) (v := ?_) ?hi_3 (by kernel_rfl) ?hf_3 (by kernel_rfl) ?hQ_3 ?hy_3 (by assumption) ?_
  case hi_3 => simp only [List.getElem?_toArray, List.getElem?_cons_zero, List.getElem?_cons_succ]; rfl
  case hf_3 => kernel_rfl
  case hQ_3 => exact fun _ _ _ h => h
  case hy_3 =>
    refine Or.inl ⟨by rfl, ?_⟩
    intro W hSw
    obtain ⟨q0, q1⟩ := hSw
    go_simp
    try with_reducible rfl
  try simp only [Act.put, List.setIfInBounds_toArray, List.set_cons_zero, List.set_cons_succ]
  refine wpAnyH_take (i := 3) (oi := ?oi_4) (v := ?_) ?hi_4 (by kernel_rfl) ?hf_4 (by kernel_rfl) ?hQ_4 ?hy_4 (by assumption) ?_
  case hi_4 => simp only [List.getElem?_toArray, List.getElem?_cons_zero, List.getElem?_cons_succ]; rfl
  case hf_4 => kernel_rfl
  case hQ_4 => exact fun _ _ _ h => h
  case hy_4 =>
    refine Or.inl ⟨by rfl, ?_⟩
    intro W hSw
    obtain ⟨q0, q1⟩ := hSw
    go_simp
    try with_reducible rfl
  try simp only [Act.put, List.setIfInBounds_toArray, List.set_cons_zero, List.set_cons_succ]
  refine wpAnyH_take (i := 4) (oi := ?oi_5) (v := ?_) ?hi_5 (by kernel_rfl) ?hf_5 (by kernel_rfl) ?hQ_5 ?hy_5 (by assumption) ?_
  case hi_5 => simp only [List.getElem?_toArray, List.getElem?_cons_zero, List.getElem?_cons_succ]; rfl
  case hf_5 => kernel_rfl
  case hQ_5 => exact fun _ _ _ h => h
  case hy_5 =>
    refine Or.inl ⟨by rfl, ?_⟩
    intro W hSw
    obtain ⟨q0, q1⟩ := hSw
    go_simp
    try with_reducible rfl
  try simp only [Act.put, List.setIfInBounds_toArray, List.set_cons_zero, List.set_cons_succ]
  refine wpAnyH_take (i := 5) (oi := ?oi_6) (v := ?_) ?hi_6 (by kernel_rfl) ?hf_6 (by kernel_rfl) ?hQ_6 ?hy_6 (by assumption) ?_
  case hi_6 => simp only [List.getElem?_toArray, List.getElem?_cons_zero, List.getElem?_cons_succ]; rfl
  case hf_6 => kernel_rfl
  case hQ_6 => exact fun _ _ _ h => h
  case hy_6 =>
    refine Or.inl ⟨by rfl, ?_⟩
    intro W hSw
    obtain ⟨q0, q1⟩ := hSw
    go_simp
    try with_reducible rfl
  try simp only [Act.put, List.setIfInBounds_toArray, List.set_cons_zero, List.set_cons_succ]
  refine wpAnyH_take (i := 6) (oi := ?oi_7) (v := ?_) ?hi_7 (by kernel_rfl) ?hf_7 (by kernel_rfl) ?hQ_7 ?hy_7 (by assumption) ?_
  case hi_7 => simp only [List.getElem?_toArray, List.getElem?_cons_zero, List.getElem?_cons_succ]; rfl
  case hf_7 => kernel_rfl
  case hQ_7 => exact fun _ _ _ h => h
  case hy_7 =>
    refine Or.inl ⟨by rfl, ?_⟩
    intro W hSw
    obtain ⟨q0, q1⟩ := hSw
    go_simp
    try with_reducible rfl
  try simp only [Act.put, List.setIfInBounds_toArray, List.set_cons_zero, List.set_cons_succ]
  refine wpAnyH_take (i := 7) (oi := ?oi_8) (v := ?_) ?hi_8 (by kernel_rfl) ?hf_8 (by kernel_rfl) ?hQ_8 ?hy_8 (by assumption) ?_
  case hi_8 => simp only [List.getElem?_toArray, List.getElem?_cons_zero, List.getElem?_cons_succ]; rfl
  case hf_8 => kernel_rfl
  case hQ_8 => exact fun _ _ _ h => h
  case hy_8 =>
    refine Or.inl ⟨by rfl, ?_⟩
    intro W hSw
    obtain ⟨q0, q1⟩ := hSw
    go_simp
    try with_reducible rfl
  try simp only [Act.put, List.setIfInBounds_toArray, List.set_cons_zero, List.set_cons_succ]
  refine wpAnyH_take (i := 8) (oi := ?oi_9) (v := ?_) ?hi_9 (by kernel_rfl) ?hf_9 (by kernel_rfl) ?hQ_9 ?hy_9 (by assumption) ?_
  case hi_9 => simp only [List.getElem?_toArray, List.getElem?_cons_zero, List.getElem?_cons_succ]; rfl
  case hf_9 => kernel_rfl
  case hQ_9 => exact fun _ _ _ h => h
  case hy_9 =>
    refine Or.inl ⟨by rfl, ?_⟩
    intro W hSw
    obtain ⟨q0, q1⟩ := hSw
    go_simp
    try with_reducible rfl
  try simp only [Act.put, List.setIfInBounds_toArray, List.set_cons_zero, List.set_cons_succ]
  refine wpAnyH_take (i := 9) (oi := ?oi_10) (v := ?_) ?hi_10 (by kernel_rfl) ?hf_10 (by kernel_rfl) ?hQ_10 ?hy_10 (by assumption) ?_
  case hi_10 => simp only [List.getElem?_toArray, List.getElem?_cons_zero, List.getElem?_cons_succ]; rfl
  case hf_10 => kernel_rfl
  case hQ_10 => exact fun _ _ _ h => h
  case hy_10 =>
    refine Or.inl ⟨by rfl, ?_⟩
    intro W hSw
    obtain ⟨q0, q1⟩ := hSw
    go_simp
    try with_reducible rfl
  try simp only [Act.put, List.setIfInBounds_toArray, List.set_cons_zero, List.set_cons_succ]
  refine wpAnyH_take (i := 10) (oi := ?oi_11) (v := ?_) ?hi_11 (by kernel_rfl) ?hf_11 (by kernel_rfl) ?hQ_11 ?hy_11 (by assumption) ?_
  case hi_11 => simp only [List.getElem?_toArray, List.getElem?_cons_zero, List.getElem?_cons_succ]; rfl
  case hf_11 => kernel_rfl
  case hQ_11 => exact fun _ _ _ h => h
  case hy_11 =>
    refine Or.inl ⟨by rfl, ?_⟩
    intro W hSw
    obtain ⟨q0, q1⟩ := hSw
    go_simp
    try with_reducible rfl
  try simp only [Act.put, List.setIfInBounds_toArray, List.set_cons_zero, List.set_cons_succ]
  refine wpAnyH_ready (rs := [11]) (by kernel_rfl) (by simp) ?_
  refine AllReadyH.cons (o := ?oi_12) ?hi_12 (fun K hK => ?_) AllReadyH.nil
  case hi_12 => simp only [List.getElem?_toArray, List.getElem?_cons_zero, List.getElem?_cons_succ]; rfl
  go_simp
  (go_at_call 41
   refine HBy.out.mono ?_
   rintro e w3 ⟨g, rfl, hg3, hy3, hb3⟩
   have HY3 := Lib.hid hy3
   have hF3 := Fr.of_below (S := fun _ => False) hb3
   have HF3 : Hid (Fr (fun _ => False) w1 w3) := Lib.hid hF3.undrew
   have HL3 := Lib.hid (HM.out.lay.fr hF3.undrew (fun _ _ q => q))
   have hK2 : w3.cell? ⟨A.p, 0, none⟩ = some (.pointer (some ⟨A.a, 0, none⟩)) ∧ w3.cell? ⟨A.fb, j * 6, none⟩ = some (.int .i64 (d.room j)) := ⟨HL3.out.blk.cell 0, by rw [← HRM.out]; exact HL3.out.fcell (by rw [HM.out.n]; exact hj) 0 rfl⟩
   have HG3 : Hid (w1.heap.size ≤ g) := Lib.hid hg3
   clear hg3 hy3 hb3 hF3)
  refine hK.out _ _ hK2 (fun hHeld => ?_)
  clear hK K
  try simp only [Act.put, List.setIfInBounds_toArray, List.set_cons_zero, List.set_cons_succ]
  refine wpAnyH_take (i := 12) (oi := ?oi_13) (v := ?_) ?hi_13 (by kernel_rfl) ?hf_13 (by kernel_rfl) ?hQ_13 ?hy_13 (by assumption) ?_
  case hi_13 => simp only [List.getElem?_toArray, List.getElem?_cons_zero, List.getElem?_cons_succ]; rfl
  case hf_13 => kernel_rfl
  case hQ_13 => exact fun _ _ _ h => h
  case hy_13 =>
    refine Or.inl ⟨by rfl, ?_⟩
    intro W hSw
    obtain ⟨q0, q1⟩ := hSw
    go_simp
    try with_reducible rfl
  try simp only [Act.put, List.setIfInBounds_toArray, List.set_cons_zero, List.set_cons_succ]
  refine wpAnyH_take (i := 13) (oi := ?oi_14) (v := ?_) ?hi_14 (by kernel_rfl) ?hf_14 (by kernel_rfl) ?hQ_14 ?hy_14 (by assumption) ?_
  case hi_14 => simp only [List.getElem?_toArray, List.getElem?_cons_zero, List.getElem?_cons_succ]; rfl
  case hf_14 => kernel_rfl
  case hQ_14 => exact fun _ _ _ h => h
  case hy_14 =>
    refine Or.inl ⟨by rfl, ?_⟩
    intro W hSw
    obtain ⟨q0, q1⟩ := hSw
    go_simp
    try with_reducible rfl
  try simp only [Act.put, List.setIfInBounds_toArray, List.set_cons_zero, List.set_cons_succ]
  refine wpAnyH_take (i := 14) (oi := ?oi_15) (v := ?_) ?hi_15 (by kernel_rfl) ?hf_15 (by kernel_rfl) ?hQ_15 ?hy_15 (by assumption) ?_
  case hi_15 => simp only [List.getElem?_toArray, List.getElem?_cons_zero, List.getElem?_cons_succ]; rfl
  case hf_15 => kernel_rfl
  case hQ_15 => exact fun _ _ _ h => h
  case hy_15 =>
    refine Or.inl ⟨by rfl, ?_⟩
    intro W hSw
    obtain ⟨q0, q1⟩ := hSw
    go_simp
    try with_reducible rfl
  try simp only [Act.put, List.setIfInBounds_toArray, List.set_cons_zero, List.set_cons_succ]
  refine wpAnyH_take (i := 15) (oi := ?oi_16) (v := ?_) ?hi_16 (by kernel_rfl) ?hf_16 (by kernel_rfl) ?hQ_16 ?hy_16 (by assumption) ?_
  case hi_16 => simp only [List.getElem?_toArray, List.getElem?_cons_zero, List.getElem?_cons_succ]; rfl
  case hf_16 => kernel_rfl
  case hQ_16 => exact fun _ _ _ h => h
  case hy_16 =>
    refine Or.inl ⟨by rfl, ?_⟩
    intro W hSw
    obtain ⟨q0, q1⟩ := hSw
    go_simp
    try with_reducible rfl
  try simp only [Act.put, List.setIfInBounds_toArray, List.set_cons_zero, List.set_cons_succ]
  refine wpAnyH_done (by kernel_rfl) ?_ _
  clear hHeld hK2 c0 f0
  go_wp2
  go_ret2
  refine ⟨g, j, d1, m1, rfl, ?_, HM.out.on HF3.out, hj, HT.out, HPG.out, HCHG.out, Nat.le_trans HM.out.fr.size HG3.out, fun q => Nat.lt_irrefl _ (Nat.lt_of_lt_of_le (HM.out.lay.flt q) HG3.out)⟩
  have hc := HM.out.pi.cont j (by rw [HM.out.n]; exact hj) HT.out (fun q => q)
  rw [HRM.out, HM.out.size, HPG.out] at hc
  have := HY3.out
  rw [← sub_read hc hon]
  exact this
end Go.Proofs.Ytlnffcledpccjaa
