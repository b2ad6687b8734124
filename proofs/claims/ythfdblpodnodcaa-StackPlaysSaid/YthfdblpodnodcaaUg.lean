/-
  frame.Frames.Close; New.
-/
import Derived.Test.YthfdblpodnodcaaUf
namespace Go.Proofs.Ythfdblpodnodcaa
open Go.RowKit
set_option linter.unusedVariables false
set_option linter.unusedSimpArgs false
section
variable {w : World} {a bb rm gm : Nat} {d : Ad} {s at_ cells h : Nat}
theorem FkI.close_kept {w2 : World} {c k : Nat} (H : FkI w a bb rm gm d s at_ cells h) (hG : ∀ i, d.G i = []) (hf : Fr (gvS a rm gm d c) (w.drewN k) w2) : Blk w2 s 86 (fkC a at_ cells h) := by
  refine (H.blk.drewN k).fr hf ?_
  rintro (q | q | q | q)
  · exact H.sa q
  · obtain ⟨n, _, hi⟩ := H.are.rooms
    exact hi.ne_ H.blk q.symm
  · obtain ⟨n, _, hi⟩ := H.are.given
    exact hi.ne_ H.blk q.symm
  · have := (H.are.own0 c).2.2 (hG c)
    rw [this] at q
    cases q
theorem Are.fclose_set {w2 : World} {at_ c : Nat} {v : Value} {cs : Array Value} {u0 u1 u2 u3 : Value} (H : Are w2 a bb rm gm (d.give at_ c v)) (hB : Blk w2 s 86 cs) :
    Are ((((w2.setCell ⟨s, 0, none⟩ u0).setCell ⟨s, 1, none⟩ u1).setCell ⟨s, 2, none⟩ u2).setCell ⟨s, 3, none⟩ u3) a bb rm gm (d.give at_ c v) := by
  have hf : Fr (· = s) w2 ((((w2.setCell ⟨s, 0, none⟩ u0).setCell ⟨s, 1, none⟩ u1).setCell ⟨s, 2, none⟩ u2).setCell ⟨s, 3, none⟩ u3) :=
    ((((Fr.refl (· = s) w2).set_ (p := ⟨s, 0, none⟩) rfl u0).set_ (p := ⟨s, 1, none⟩) rfl u1).set_ (p := ⟨s, 2, none⟩) rfl u2).set_ (p := ⟨s, 3, none⟩) rfl u3
  refine H.fr hf ?_
  rintro k hk rfl
  rcases hk with q | q | q | q | ⟨i, hc, q⟩
  · rw [q] at hB; exact hB.ne_ H.blk (by decide) rfl
  · rw [q] at hB; exact hB.ne_ H.byt (by decide) rfl
  · obtain ⟨n, _, hi⟩ := H.rooms
    rw [q] at hB
    exact hi.ne_ hB rfl
  · obtain ⟨n, _, hi⟩ := H.given
    rw [q] at hB
    exact hi.ne_ hB rfl
  · obtain ⟨g', cap, cur, e, hg', _⟩ := H.row hc
    rw [e] at q
    simp only [Value.ownBlock, Option.some.injEq] at q
    rw [← q] at hB
    exact hg'.ne_ hB (by decide) rfl
def FcPost (a bb rm gm : Nat) (d : Ad) (s at_ c : Nat) (w : World) (e : Ending) (w' : World) : Prop :=
  e = .returned (.int .i64 0) ∧ (∃ v, Are w' a bb rm gm (d.give at_ c v)) ∧ Blk w' s 86 skZ
set_option maxHeartbeats 2000000 in
set_option maxRecDepth 100000 in
theorem FClose_ok (H : FkI w a bb rm gm d s at_ cells h) (c : Nat) (hR : d.R at_ = some c) (hG : ∀ i, d.G i = []) (ho : d.ops < 1000000) : Calls Try.prog 36 #[.pointer (some ⟨s, 0, none⟩)] w (FcPost a bb rm gm d s at_ c w) := by
  have HC := Lib.hid (fclosed_no H.blk)
  have c0 : w.drew.cell? ⟨s, 0, none⟩ = some (.pointer (some ⟨a, 0, none⟩)) := H.blk.cell 0
  have c1 : w.drew.cell? ⟨s, 1, none⟩ = some (.int .i64 at_) := H.blk.cell 1
  have HGi := Give_ok a bb rm gm d at_ c w.drew (H.are.drewN 1) hR ho
  unfold GvPost at HGi
  have HGi := Lib.hid HGi
  have HS := Lib.hid H
  have HE := Lib.hid hG
  clear H hR hG
  go_enter Try.func36, Try.ntmps36
  go_wp2_with (go_at_call 46; refine HC.out.mono ?_; rintro e w' ⟨rfl, rfl⟩)
  refine wp_region_held_drew (S := (fun W => W.cell? ⟨s, 0, none⟩ = some (.pointer (some ⟨a, 0, none⟩)) ∧ W.cell? ⟨s, 1, none⟩ = some (.int .i64 at_))) (by kernel_rfl) ⟨c0, c1⟩ (fun hHeld => ?_)
  refine wpAnyH_take (i := 0) (oi := ?oi_30) (v := ?_) ?hi_30 (by kernel_rfl) ?hf_30 (by kernel_rfl) ?hQ_30 ?hy_30 (by assumption) ?_
  case hi_30 => simp only [List.getElem?_toArray, List.getElem?_cons_zero, List.getElem?_cons_succ]; rfl
  case hf_30 => kernel_rfl
  case hQ_30 => exact fun _ _ _ h => h
  case hy_30 =>
    refine Or.inl ⟨by rfl, ?_⟩
    intro W hSw
    obtain ⟨q0, q1⟩ := hSw
    go_simp
    try with_reducible rfl
  try simp only [Act.put, List.setIfInBounds_toArray, List.set_cons_zero, List.set_cons_succ]
  refine wpAnyH_take (i := 1) (oi := ?oi_31) (v := ?_) ?hi_31 (by kernel_rfl) ?hf_31 (by kernel_rfl) ?hQ_31 ?hy_31 (by assumption) ?_
  case hi_31 => simp only [List.getElem?_toArray, List.getElem?_cons_zero, List.getElem?_cons_succ]; rfl
  case hf_31 => kernel_rfl
  case hQ_31 => exact fun _ _ _ h => h
  case hy_31 =>
    refine Or.inl ⟨by rfl, ?_⟩
    intro W hSw
    obtain ⟨q0, q1⟩ := hSw
    go_simp
    try with_reducible rfl
  try simp only [Act.put, List.setIfInBounds_toArray, List.set_cons_zero, List.set_cons_succ]
  refine wpAnyH_take (i := 2) (oi := ?oi_32) (v := ?_) ?hi_32 (by kernel_rfl) ?hf_32 (by kernel_rfl) ?hQ_32 ?hy_32 (by assumption) ?_
  case hi_32 => simp only [List.getElem?_toArray, List.getElem?_cons_zero, List.getElem?_cons_succ]; rfl
  case hf_32 => kernel_rfl
  case hQ_32 => exact fun _ _ _ h => h
  case hy_32 =>
    refine Or.inl ⟨by rfl, ?_⟩
    intro W hSw
    obtain ⟨q0, q1⟩ := hSw
    go_simp
    try with_reducible rfl
  try simp only [Act.put, List.setIfInBounds_toArray, List.set_cons_zero, List.set_cons_succ]
  refine wpAnyH_take (i := 3) (oi := ?oi_33) (v := ?_) ?hi_33 (by kernel_rfl) ?hf_33 (by kernel_rfl) ?hQ_33 ?hy_33 (by assumption) ?_
  case hi_33 => simp only [List.getElem?_toArray, List.getElem?_cons_zero, List.getElem?_cons_succ]; rfl
  case hf_33 => kernel_rfl
  case hQ_33 => exact fun _ _ _ h => h
  case hy_33 =>
    refine Or.inl ⟨by rfl, ?_⟩
    intro W hSw
    obtain ⟨q0, q1⟩ := hSw
    go_simp
    try with_reducible rfl
  try simp only [Act.put, List.setIfInBounds_toArray, List.set_cons_zero, List.set_cons_succ]
  refine wpAnyH_take (i := 4) (oi := ?oi_34) (v := ?_) ?hi_34 (by kernel_rfl) ?hf_34 (by kernel_rfl) ?hQ_34 ?hy_34 (by assumption) ?_
  case hi_34 => simp only [List.getElem?_toArray, List.getElem?_cons_zero, List.getElem?_cons_succ]; rfl
  case hf_34 => kernel_rfl
  case hQ_34 => exact fun _ _ _ h => h
  case hy_34 =>
    refine Or.inl ⟨by rfl, ?_⟩
    intro W hSw
    obtain ⟨q0, q1⟩ := hSw
    go_simp
    try with_reducible rfl
  try simp only [Act.put, List.setIfInBounds_toArray, List.set_cons_zero, List.set_cons_succ]
  refine wpAnyH_take (i := 5) (oi := ?oi_35) (v := ?_) ?hi_35 (by kernel_rfl) ?hf_35 (by kernel_rfl) ?hQ_35 ?hy_35 (by assumption) ?_
  case hi_35 => simp only [List.getElem?_toArray, List.getElem?_cons_zero, List.getElem?_cons_succ]; rfl
  case hf_35 => kernel_rfl
  case hQ_35 => exact fun _ _ _ h => h
  case hy_35 =>
    refine Or.inl ⟨by rfl, ?_⟩
    intro W hSw
    obtain ⟨q0, q1⟩ := hSw
    go_simp
    try with_reducible rfl
  try simp only [Act.put, List.setIfInBounds_toArray, List.set_cons_zero, List.set_cons_succ]
  refine wpAnyH_take (i := 6) (oi := ?oi_36) (v := ?_) ?hi_36 (by kernel_rfl) ?hf_36 (by kernel_rfl) ?hQ_36 ?hy_36 (by assumption) ?_
  case hi_36 => simp only [List.getElem?_toArray, List.getElem?_cons_zero, List.getElem?_cons_succ]; rfl
  case hf_36 => kernel_rfl
  case hQ_36 => exact fun _ _ _ h => h
  case hy_36 =>
    refine Or.inl ⟨by rfl, ?_⟩
    intro W hSw
    obtain ⟨q0, q1⟩ := hSw
    go_simp
    try with_reducible rfl
  try simp only [Act.put, List.setIfInBounds_toArray, List.set_cons_zero, List.set_cons_succ]
  refine wpAnyH_take (i := 7) (oi := ?oi_37) (v := ?_) ?hi_37 (by kernel_rfl) ?hf_37 (by kernel_rfl) ?hQ_37 ?hy_37 (by assumption) ?_
  case hi_37 => simp only [List.getElem?_toArray, List.getElem?_cons_zero, List.getElem?_cons_succ]; rfl
  case hf_37 => kernel_rfl
  case hQ_37 => exact fun _ _ _ h => h
  case hy_37 =>
    refine Or.inl ⟨by rfl, ?_⟩
    intro W hSw
    obtain ⟨q0, q1⟩ := hSw
    go_simp
    try with_reducible rfl
  try simp only [Act.put, List.setIfInBounds_toArray, List.set_cons_zero, List.set_cons_succ]
  refine wpAnyH_ready (rs := [8]) (by kernel_rfl) (by simp) ?_
  refine AllReadyH.cons (o := ?oi_38) ?hi_38 (fun K hK => ?_) AllReadyH.nil
  case hi_38 => simp only [List.getElem?_toArray, List.getElem?_cons_zero, List.getElem?_cons_succ]; rfl
  go_simp
  (go_at_call 45
   refine HGi.out.mono ?_
   rintro e w2 ⟨v, rfl, hA, hF, hv⟩
   have HA2 := Lib.hid hA
   have hb2 := HS.out.close_kept HE.out hF
   have HB2 := Lib.hid hb2
   have g0 : w2.cell? ⟨s, 0, none⟩ = some (.pointer (some ⟨a, 0, none⟩)) := hb2.cell 0
   have g1 : w2.cell? ⟨s, 1, none⟩ = some (.int .i64 at_) := hb2.cell 1
   have g2 : w2.cell? ⟨s, 2, none⟩ = some (.int .i64 cells) := hb2.cell 2
   have g3 : w2.cell? ⟨s, 3, none⟩ = some (.int .i64 h) := hb2.cell 3
   have z0 := hb2.frozen 0
   have z1 := hb2.frozen 1
   have z2 := hb2.frozen 2
   have z3 := hb2.frozen 3
   clear hA hF hv hb2)
  refine hK.out _ _ ⟨g0, g1⟩ (fun hHeld => ?_)
  clear hK K
  try simp only [Act.put, List.setIfInBounds_toArray, List.set_cons_zero, List.set_cons_succ]
  refine wpAnyH_done (by kernel_rfl) ?_ _
  clear hHeld
  simp only [Exit.inBlock, Exit.then]
  go_wp2
  go_ret
  refine ⟨rfl, ⟨v, HA2.out.fclose_set HB2.out⟩, ?_⟩
  exact (((HB2.out.set_ 0 _).set_ 1 _).set_ 2 _).set_ 3 _
set_option maxRecDepth 100000 in
theorem FClose_shut (H : Blk w s 86 skZ) : Calls Try.prog 36 #[.pointer (some ⟨s, 0, none⟩)] w fun e w' => e = .returned (.int .i64 12) ∧ w = w' := by
  have HC := Lib.hid (fclosed_yes H)
  clear H
  go_enter Try.func36, Try.ntmps36
  go_wp2_with (go_at_call 46; refine HC.out.mono ?_; rintro e w' ⟨rfl, rfl⟩)
  go_ret
  exact ⟨rfl, rfl⟩
set_option maxRecDepth 100000 in
theorem FClose_nil (w : World) : Calls Try.prog 36 #[.pointer none] w fun e w' => e = .returned (.int .i64 12) ∧ w = w' := by
  have HC := Lib.hid (fclosed_nil w)
  go_enter Try.func36, Try.ntmps36
  go_wp2_with (go_at_call 46; refine HC.out.mono ?_; rintro e w' ⟨rfl, rfl⟩)
  go_ret
  exact ⟨rfl, rfl⟩
def NfPost (a bb rm gm : Nat) (d : Ad) (cells : Nat) (w : World) (e : Ending) (w' : World) : Prop :=
  ∃ s, e = .returned (.tuple #[.pointer (some ⟨s, 0, none⟩), .int .i64 0]) ∧ w.heap.size ≤ s ∧ FkI w' a bb rm gm ((d.cut (cl (12 * cells))).take d.height (cl (12 * cells))) s d.height cells 0 ∧ Fr (arb a bb rm gm) w w'
set_option maxHeartbeats 1000000 in
set_option maxRecDepth 100000 in
theorem FkNew_ok (H : Are w a bb rm gm d) (n : Nat) (h1 : 1 ≤ n) (h2 : n ≤ 10000) (hG : d.G (cl (12 * n)) = []) (hh : d.height + cl (12 * n) ≤ d.sz) (ho : d.ops < 1000000) :
    Calls Try.prog 27 #[.pointer (some ⟨a, 0, none⟩), .int .i64 n] w (NfPost a bb rm gm d n w) := by
  have HT := Take_cut a bb rm gm d (12 * n) w H (by omega) (by omega) hG hh ho
  unfold TcPost at HT
  have HT := Lib.hid HT
  have hge : 12 * (n : Int) ≤ cl (12 * n) := cl_ge (by omega)
  clear H hG
  go_enter Try.func27, Try.ntmps27
  go_wp2_with (go_at_call 37; refine HT.out.mono ?_; rintro e w2 ⟨rfl, hA, hF⟩; have HA2 := Lib.hid hA; have HF2 := Lib.hid hF; clear hA hF)
  go_ret2
  refine ⟨w2.heap.size, rfl, HF2.out.size, ⟨HA2.out.alloc _, Blk.new w2 86 _, Nat.zero_le _, h2, ?_⟩, HF2.out.alloc _⟩
  show d.height + 12 * n ≤ d.sz
  omega
set_option maxRecDepth 100000 in
theorem FkNew_full (H : Are w a bb rm gm d) (n : Nat) (h1 : 1 ≤ n) (h2 : n ≤ 10000) (hG : d.G (cl (12 * n)) = []) (hh : d.sz < d.height + cl (12 * n)) :
    Calls Try.prog 27 #[.pointer (some ⟨a, 0, none⟩), .int .i64 n] w fun e w' => e = .returned (.tuple #[.pointer none, .int .i64 8]) ∧ ∃ k, w.drewN k = w' := by
  have HT := Lib.hid (Take_full a bb rm gm d (12 * n) w H (by omega) (by omega) hG hh)
  clear H hG
  go_enter Try.func27, Try.ntmps27
  go_wp2_with (go_at_call 37; refine HT.out.mono ?_; rintro e w2 ⟨rfl, kq, rfl⟩)
  go_ret2
  exact ⟨rfl, _, rfl⟩
set_option maxRecDepth 100000 in
theorem FkNew_arg (w : World) (a : Nat) (n : Int) (h : n < 1 ∨ (1 ≤ n ∧ 10000 < n)) :
    Calls Try.prog 27 #[.pointer (some ⟨a, 0, none⟩), .int .i64 n] w fun e w' => e = .returned (.tuple #[.pointer none, .int .i64 1]) ∧ w = w' := by
  rcases h with h | ⟨h, h'⟩
  all_goals
    go_enter Try.func27, Try.ntmps27
    go_wp2
    go_ret2
    exact ⟨rfl, rfl⟩
set_option maxRecDepth 100000 in
theorem FkNew_nil (w : World) (n : Int) : Calls Try.prog 27 #[.pointer none, .int .i64 n] w fun e w' => e = .returned (.tuple #[.pointer none, .int .i64 12]) ∧ w = w' := by
  go_enter Try.func27, Try.ntmps27
  go_wp2
  go_ret2
  exact ⟨rfl, rfl⟩
end
end Go.Proofs.Ythfdblpodnodcaa
