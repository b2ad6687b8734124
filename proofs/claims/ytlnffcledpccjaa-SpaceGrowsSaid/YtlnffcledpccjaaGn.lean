/-
  pager.Pager.Flush, Resident.
-/
import Derived.Test.YtlnffcledpccjaaGm
namespace Go.Proofs.Ytlnffcledpccjaa
open Go.RowKit
set_option linter.unusedVariables false
set_option linter.unusedSimpArgs false
/-- all frames are written -/
structure Fls (A : Pa) (d d' : Pd) (mem : List Nat) (C : Nat × Nat → List Nat) (W : List (Nat × Nat)) (k : Nat) (w w' : World) : Prop where
  mv : Mv A d d' mem C W (2 * k) w w'
  pg : d'.pg = d.pg
  tk : d'.tk = d.tk
  st : d'.st = d.st
  sv : ∀ i, i < k → d.tk i = true → (d'.blk (d.pg i) ≠ none ↔ C (d.pg i) ≠ zs d.sd.size)
theorem Fls.step {A : Pa} {d d1 d2 : Pd} {mem : List Nat} {C : Nat × Nat → List Nat} {W : List (Nat × Nat)} {k : Nat} {w w1 w2 : World} (h : Fls A d d1 mem C W k w w1) (s : Svd A d1 d2 mem C W k w1 w2) (hk : k < d.n) (hk' : d1.tk k = true) : Fls A d d2 mem C W (k + 1) w w2 := by
  have hm := h.mv.trans s.mv
  refine ⟨⟨hm.lay, hm.pi, hm.n, hm.room, hm.size, hm.cap, by have := hm.ops; omega, hm.fr, hm.ft, hm.chg⟩, s.pg.trans h.pg, s.tk.trans h.tk, s.st.trans h.st, fun i hi ht => ?_⟩
  have htk : d1.tk i = true := by rw [h.tk]; exact ht
  have hpg : d1.pg i = d.pg i := by rw [h.pg]
  by_cases e : i = k
  · subst e
    have hs := s.saved htk
    rw [hpg, h.mv.size] at hs
    constructor
    · intro hb hz
      exact hb (hs.1 hz)
    · intro hz hb
      obtain ⟨id, hid, _⟩ := hs.2 hz
      rw [hid] at hb
      cases hb
  · have hne : d.pg i ≠ d1.pg k := fun q => e <| by
      have h1 := h.mv.pi.stand (by rw [h.mv.n]; omega : i < d1.n) htk
      have h2 := h.mv.pi.stand (by rw [h.mv.n]; omega : k < d1.n) hk'
      rw [hpg, q, h2] at h1
      exact (Option.some.inj h1).symm
    rw [s.others _ hne]
    exact h.sv i (by omega) ht
theorem Fls.idle {A : Pa} {d d1 : Pd} {mem : List Nat} {C : Nat × Nat → List Nat} {W : List (Nat × Nat)} {k : Nat} {w w1 : World} (h : Fls A d d1 mem C W k w w1) (hk' : d1.tk k = false) : Fls A d d1 mem C W (k + 1) w w1 := by
  have hm := h.mv
  refine ⟨⟨hm.lay, hm.pi, hm.n, hm.room, hm.size, hm.cap, by have := hm.ops; omega, hm.fr, hm.ft, hm.chg⟩, h.pg, h.tk, h.st, fun i hi ht => ?_⟩
  by_cases e : i = k
  · subst e
    rw [h.tk, ht] at hk'
    cases hk'
  · exact h.sv i (by omega) ht
/-- once all is written: a page has a block where not all of its bytes are 0, and nowhere else -/
theorem Fls.whole {A : Pa} {d d1 : Pd} {mem : List Nat} {C : Nat × Nat → List Nat} {W : List (Nat × Nat)} {w w1 : World} (h : Fls A d d1 mem C W d.n w w1) (x : Nat × Nat) : d1.blk x ≠ none ↔ C x ≠ zs d.sd.size := by
  cases hs : d1.st x with
  | some i =>
    obtain ⟨h1, h2, h3⟩ := (h.mv.pi.st x i).1 hs
    rw [h.tk] at h2
    rw [h.pg] at h3
    rw [← h3]
    exact h.sv i (by rw [← h.mv.n]; exact h1) h2
  | none =>
    cases hb : d1.blk x with
    | some id =>
      have := (h.mv.pi.cb x id (fun q => q) hs hb).2
      rw [h.mv.size] at this
      exact ⟨fun _ => this, fun _ q => by cases q⟩
    | none =>
      have := h.mv.pi.cz x (fun q => q) hs hb
      rw [h.mv.size] at this
      exact ⟨fun q => absurd rfl q, fun q => absurd this q⟩
set_option maxHeartbeats 1000000 in
set_option maxRecDepth 100000 in
theorem save_idle {w : World} {A : Pa} {d : Pd} (h : Lay w A d) (i : Nat) (hi : i < d.n) (ht : d.tk i = false) :
    Calls Try.prog 47 #[.pointer (some ⟨A.p, 0, none⟩), .int .i64 i] w fun e w' => e = .returned (.int .i64 0) ∧ w = w' := by
  have c2 : w.cell? ⟨A.p, 2, none⟩ = some (.slice (some ⟨A.fb, 0, none⟩) d.n A.cap) := h.blk.cell 2
  have f3 : w.cell? ⟨A.fb, i * 6 + 3, none⟩ = some (.bool false) := by rw [← ht]; exact h.fcell hi 3 rfl
  have hn2 := h.n2
  clear h ht
  go_enter Try.func47, Try.ntmps47
  go_wp2
  go_ret
  exact ⟨rfl, rfl⟩
def FlPost (A : Pa) (d : Pd) (mem : List Nat) (C : Nat × Nat → List Nat) (W : List (Nat × Nat)) (w : World) (e : Ending) (w' : World) : Prop :=
  e = .returned (.int .i64 0) ∧ ∃ d', Fls A d d' mem C W d.n w w'
set_option maxHeartbeats 2000000 in
set_option maxRecDepth 100000 in
theorem Flush_ok {w : World} {A : Pa} {d : Pd} {C : Nat × Nat → List Nat} {W : List (Nat × Nat)} {bb rm gm : Nat} {ad : Ad} (h : Lay w A d) (ha : Are w A.a bb rm gm ad) (hdis : ∀ k, ad.mine A.a bb rm gm k → ¬ foot A d k) (hp : PI d ad.mem C W (fun _ => False)) (ho : d.sd.ops < 800000) (hW : W.length ≤ d.sd.cap) :
    Calls Try.prog 18 #[.pointer (some ⟨A.p, 0, none⟩)] w (FlPost A d ad.mem C W w) := by
  have HW_ := Lib.hid (works_ok h)
  have c2 : w.cell? ⟨A.p, 2, none⟩ = some (.slice (some ⟨A.fb, 0, none⟩) d.n A.cap) := h.blk.cell 2
  have hn1 := h.n1
  have hn2 := h.n2
  have HF0 : Hid (Fls A d d ad.mem C W 0 w w) := Lib.hid ⟨Mv.still h hp (Fr.refl _ _), rfl, rfl, rfl, fun i hi => absurd hi (Nat.not_lt_zero _)⟩
  have HA := Lib.hid ha
  have HD := Lib.hid hdis
  clear h ha hdis hp
  go_enter Try.func18, Try.ntmps18
  go_wp2_with (go_at_call 43; refine HW_.out.mono ?_; rintro e w1 ⟨rfl, rfl⟩)
  clear c2
  go_loopw [16] (fun v16 wr => ∃ (k : Nat) (d1 : Pd), k ≤ d.n ∧ v16 = .int .i64 k ∧ Hid (Fls A d d1 ad.mem C W k w wr)) (fun v16 _ => d.n - (intOf v16).toNat)
  case atStart => exact ⟨0, d, Nat.zero_le _, rfl, HF0⟩
  case round =>
    obtain ⟨k, d1, hk, rfl, HF⟩ := hrel
    by_cases hlt : k < d.n
    · have hk1 : k < d1.n := by rw [HF.out.mv.n]; exact hlt
      cases ht : d1.tk k with
      | true =>
        have hs := save_yes HF.out.mv.lay (HA.out.fr HF.out.mv.fr (fun q hq => HD.out q hq)) HF.out.mv.pi k hk1 ht (by have := HF.out.mv.ops; omega) (by rw [HF.out.mv.cap]; exact hW)
        unfold SvPost at hs
        have HS := Lib.hid hs
        have HT := Lib.hid ht
        clear hs ht
        go_wp2_with (go_at_call 47
                     refine HS.out.mono ?_
                     rintro e w2 ⟨rfl, d2, hs2⟩
                     have HF2 := Lib.hid (HF.out.step hs2 hlt HT.out)
                     clear hs2)
        go_roundw
        case rel => exact ⟨k + 1, d2, by omega, by go_num, HF2⟩
        case measure => simp [intOf]; omega
      | false =>
        have HS := Lib.hid (save_idle HF.out.mv.lay k hk1 ht)
        have HF2 := Lib.hid (HF.out.idle ht)
        clear ht
        go_wp2_with (go_at_call 47; refine HS.out.mono ?_; rintro e w2 ⟨rfl, rfl⟩)
        go_roundw
        case rel => exact ⟨k + 1, d1, by omega, by go_num, HF2⟩
        case measure => simp [intOf]; omega
    · obtain rfl : k = d.n := by omega
      go_wp2
      go_ret
      exact ⟨rfl, d1, HF.out⟩
end Go.Proofs.Ytlnffcledpccjaa
