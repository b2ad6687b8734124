/-
  uses, has, reach, lowest of a store.
-/
import Derived.Test.YtlnffcledpccjaaSb
namespace Go.Proofs.Ytlnffcledpccjaa
open Go.RowKit
set_option linter.unusedVariables false
theorem zero37 (w : World) : (zeroValue 34).run Try.prog w = .ok (.slice none 0 0) w := by kernel_rfl
set_option maxHeartbeats 400000 in
set_option maxRecDepth 100000 in
theorem uses_any (s m : Nat) (d : Sd) (j : Int) (w : World) (h : Sto w s m d) (hj : (Lit.int .i64 j).wf = true) :
    Calls Try.prog 110 #[.pointer (some ⟨s, 0, none⟩), .int .i64 j] w fun e w' => e = .returned (.bool (d.f j).isSome) ∧ w = w' := by
  have c2 : w.cell? ⟨s, 2, none⟩ = some (.map (some m)) := h.blk.cell 2
  have HI := Lib.hid h.im
  have HJ := Lib.hid hj
  clear h hj
  go_enter Try.func110, Try.ntmps110
  go_wp2_with (at_lookup; refine wpList_lookup_im _ rfl _ _ 85 true rfl 3 34 Try.underlying3 Try.underlying85 (zero37 _) m d.n d.f rfl HI.out j rfl HJ.out ?_)
  go_ret
  exact ⟨rfl, rfl⟩
set_option maxHeartbeats 400000 in
set_option maxRecDepth 100000 in
theorem has_no (s m : Nat) (d : Sd) (j : Int) (w : World) (h : Sto w s m d) (hj : (Lit.int .i64 j).wf = true) (hn : (d.f j).isSome = false) :
    Calls Try.prog 98 #[.pointer (some ⟨s, 0, none⟩), .int .i64 j] w fun e w' => e = .returned (.int .i64 2) ∧ w = w' := by
  have HU := uses_any s m d j w h hj
  rw [hn] at HU
  have HU := Lib.hid HU
  clear h hn hj
  go_enter Try.func98, Try.ntmps98
  go_wp2_with (go_at_call 110; refine HU.out.mono ?_; rintro e w' ⟨rfl, rfl⟩)
  go_ret
  exact ⟨rfl, rfl⟩
set_option maxHeartbeats 400000 in
set_option maxRecDepth 100000 in
theorem has_yes (s m : Nat) (d : Sd) (j : Int) (w : World) (h : Sto w s m d) (hj : (Lit.int .i64 j).wf = true) (hn : (d.f j).isSome = true) :
    Calls Try.prog 98 #[.pointer (some ⟨s, 0, none⟩), .int .i64 j] w fun e w' => e = .returned (.int .i64 0) ∧ w = w' := by
  have HU := uses_any s m d j w h hj
  rw [hn] at HU
  have HU := Lib.hid HU
  clear h hn hj
  go_enter Try.func98, Try.ntmps98
  go_wp2_with (go_at_call 110; refine HU.out.mono ?_; rintro e w' ⟨rfl, rfl⟩)
  go_ret
  exact ⟨rfl, rfl⟩
set_option maxHeartbeats 400000 in
set_option maxRecDepth 100000 in
theorem reach_no (s m : Nat) (d : Sd) (j : Int) (w : World) (h : Sto w s m d) (hj : (Lit.int .i64 j).wf = true) (hn : (d.f j).isSome = false) :
    Calls Try.prog 81 #[.pointer (some ⟨s, 0, none⟩), .int .i64 j] w fun e w' => e = .returned (.int .i64 2) ∧ w = w' := by
  have HU := Lib.hid (has_no s m d j w h hj hn)
  clear h hn hj
  go_enter Try.func81, Try.ntmps81
  go_wp2_with (go_at_call 98; refine HU.out.mono ?_; rintro e w' ⟨rfl, rfl⟩)
  go_ret
  exact ⟨rfl, rfl⟩
set_option maxHeartbeats 400000 in
set_option maxRecDepth 100000 in
theorem reach_yes (s m : Nat) (d : Sd) (j : Int) (w : World) (h : Sto w s m d) (hj : (Lit.int .i64 j).wf = true) (hn : (d.f j).isSome = true) (ho : d.ops < 1000000) :
    Calls Try.prog 81 #[.pointer (some ⟨s, 0, none⟩), .int .i64 j] w fun e w' => e = .returned (.int .i64 d.e) ∧ Sto w' s m d.op ∧ Fr (· = s) w w' := by
  have HU := Lib.hid (has_yes s m d j w h hj hn)
  have HO := Lib.hid (operate_any s m d w h ho)
  clear h hn hj
  go_enter Try.func81, Try.ntmps81
  go_wp2_with (first
    | (go_at_call 98; refine HU.out.mono ?_; rintro e w' ⟨rfl, rfl⟩)
    | (go_at_call 99; refine HO.out.mono ?_; rintro e w' ⟨rfl, h1, h2⟩; have H1 := Lib.hid h1; have H2 := Lib.hid h2; clear h1 h2))
  go_ret
  exact ⟨rfl, H1.out, H2.out⟩
theorem cnt_all (B : Nat → Option (List Nat)) (c : Nat) (h : ∀ i, i < c → (B i).isSome) : cnt B c = c := by
  unfold cnt
  rw [List.filter_eq_self.2 (fun i hi => h i (List.mem_range.1 hi)), List.length_range]
theorem cnt_le (B : Nat → Option (List Nat)) (c : Nat) : cnt B c ≤ c := by
  unfold cnt
  have := List.length_filter_le (fun i => (B i).isSome) (List.range c)
  rwa [List.length_range] at this
theorem cnt_succ (B : Nat → Option (List Nat)) (c : Nat) : cnt B (c + 1) = cnt B c + if (B c).isSome then 1 else 0 := by
  unfold cnt
  rw [List.range_succ, List.filter_append, List.length_append]
  by_cases h : (B c).isSome <;> simp [h]
theorem cnt_same (B B' : Nat → Option (List Nat)) : ∀ c, (∀ i, i < c → (B i).isSome = (B' i).isSome) → cnt B c = cnt B' c := by
  intro c
  induction c with
  | zero => intro _; rfl
  | succ c ih =>
    intro h
    rw [cnt_succ, cnt_succ, ih (fun i hi => h i (by omega)), h c (by omega)]
/-- block L turns from free to used -/
theorem cnt_put (B B' : Nat → Option (List Nat)) (L : Nat) (h0 : (B L).isSome = false) (h1 : (B' L).isSome = true) (ho : ∀ i, i ≠ L → (B' i).isSome = (B i).isSome) : ∀ c, L < c → cnt B' c = cnt B c + 1 := by
  intro c
  induction c with
  | zero => intro h; omega
  | succ c ih =>
    intro h
    rw [cnt_succ, cnt_succ]
    by_cases e : L = c
    · subst e
      rw [h0, h1, cnt_same B' B L (fun i hi => ho i (by omega))]
      simp
    · rw [ih (by omega), ho c (fun x => e x.symm)]
      omega
def Sd.Low (d : Sd) (L : Nat) : Prop := d.B L = none ∧ (∀ i, i < L → (d.B i).isSome) ∧ L < d.cap
def LowPost (d : Sd) (w : World) (e : Ending) (w' : World) : Prop := ∃ L : Nat, e = .returned (.int .i64 L) ∧ d.Low L ∧ w = w'
theorem Sd.f_nat (d : Sd) (k : Nat) : (d.f (k : Int)).isSome = (d.B k).isSome := by
  unfold Sd.f
  rw [if_pos (Int.natCast_nonneg k), Int.toNat_natCast]
  cases d.B k <;> rfl
theorem Sto.takenle {w : World} {s m : Nat} {d : Sd} (h : Sto w s m d) : d.taken ≤ d.cap := by
  rcases Nat.lt_or_ge d.cap d.taken with h1 | h1
  · have := h.dom _ (h.low d.cap h1)
    omega
  · exact h1
set_option maxHeartbeats 1000000 in
set_option maxRecDepth 100000 in
theorem lowest_any (s m : Nat) (d : Sd) (w : World) (h : Sto w s m d) (hn : d.n < d.cap) :
    Calls Try.prog 100 #[.pointer (some ⟨s, 0, none⟩)] w (LowPost d w) := by
  have c3 : w.cell? ⟨s, 3, none⟩ = some (.int .i64 d.taken) := h.blk.cell 3
  have ht := h.takenle
  have hcap := h.capm
  have HS := Lib.hid h
  have HN := Lib.hid hn
  clear h hn
  go_enter Try.func100, Try.ntmps100
  go_wp2
  go_loop [3] (fun i => ∃ k : Nat, k ≤ d.cap ∧ i = .int .i64 k ∧ Hid (∀ i, i < k → (d.B i).isSome)) (fun i => d.cap - (intOf i).toNat)
  case atStart => exact ⟨d.taken, ht, rfl, Lib.hid HS.out.low⟩
  case round =>
    obtain ⟨k, hk, rfl, hu⟩ := hrel
    by_cases hb : (d.B k).isSome
    · have hkc := HS.out.dom k hb
      have HU := uses_any s m d k w HS.out (WalkArith.wf_i64 (by omega))
      rw [d.f_nat, hb] at HU
      have HU := Lib.hid HU
      have HB := Lib.hid hb
      clear hb
      go_wp2_with (go_at_call 110; refine HU.out.mono ?_; rintro e w' ⟨rfl, rfl⟩)
      go_round
      case rel => exact ⟨k + 1, by omega, by go_num, Lib.hid (fun i hi => by
        by_cases e : i = k
        · subst e; exact HB.out
        · exact hu.out i (by omega))⟩
      case measure => simp [intOf]; omega
    · have HU := uses_any s m d k w HS.out (WalkArith.wf_i64 (by omega))
      have hb' : (d.B k).isSome = false := by simpa using hb
      rw [d.f_nat, hb'] at HU
      have HU := Lib.hid HU
      have HB := Lib.hid hb'
      clear hb hb'
      go_wp2_with (go_at_call 110; refine HU.out.mono ?_; rintro e w' ⟨rfl, rfl⟩)
      go_ret
      refine ⟨k, rfl, ⟨by simpa using HB.out, hu.out, ?_⟩, rfl⟩
      rcases Nat.lt_or_ge k d.cap with h1 | h1
      · exact h1
      · have h2 : k = d.cap := by omega
        have h3 := HS.out.num
        rw [cnt_all d.B d.cap (fun i hi => hu.out i (by omega))] at h3
        have := HN.out
        omega
end Go.Proofs.Ytlnffcledpccjaa
