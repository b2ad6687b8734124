/-
  What is known of a pager: its struct, its frames, its two maps, its store; works, met, Size, free, zero.
-/
import Derived.Test.YtlnffcledpccjaaGa
import Derived.Test.YtlnffcledpccjaaSh
namespace Go.Proofs.Ytlnffcledpccjaa
open Go.RowKit
set_option linter.unusedVariables false
/-- a pager as it is told: its frames' rooms, their pages, whether they are taken, touched, changed; where pages stand, and which blocks they have; its store -/
structure Pd where
  n : Nat
  room : Nat → Nat
  pg : Nat → Nat × Nat
  tk : Nat → Bool
  th : Nat → Bool
  ch : Nat → Bool
  hand : Nat
  st : Nat × Nat → Option Nat
  blk : Nat × Nat → Option Nat
  sd : Sd
/-- where it lies -/
structure Pa where
  p : Nat
  fb : Nat
  cap : Nat
  sm : Nat
  bm : Nat
  s : Nat
  m : Nat
  a : Nat
def frC (d : Pd) (i : Nat) : List Value := [I64 (d.room i), I64 (d.pg i).1, I64 (d.pg i).2, .bool (d.tk i), .bool (d.th i), .bool (d.ch i)]
def pgC (A : Pa) (d : Pd) : Array Value := #[.pointer (some ⟨A.a, 0, none⟩), .pointer (some ⟨A.s, 0, none⟩), .slice (some ⟨A.fb, 0, none⟩) d.n A.cap, .map (some A.sm), .map (some A.bm), .int .i64 d.hand, .int .i64 0]
def Frs (w : World) (A : Pa) (d : Pd) : Prop := ∃ cur, Blk w A.fb 106 cur ∧ ∀ i, i < d.n → ∀ (k : Nat) (v : Value), (frC d i)[k]? = some v → cur[i * 6 + k]? = some v
structure Lay (w : World) (A : Pa) (d : Pd) : Prop where
  blk : Blk w A.p 102 (pgC A d)
  frs : Frs w A d
  sts : ∃ q, q ≤ 1000000 ∧ PM w A.sm q d.st
  bls : PM w A.bm d.sd.n d.blk
  sto : Sto w A.s A.m d.sd
  ne1 : A.sm ≠ A.bm
  ne2 : A.sm ≠ A.m
  ne3 : A.bm ≠ A.m
  n1 : 1 ≤ d.n
  n2 : d.n ≤ 64
  cap1 : d.n ≤ A.cap
  cap2 : A.cap ≤ maxLen
  hd : d.hand < d.n
  nof : d.sd.fails < 0
def foot (A : Pa) (d : Pd) (k : Nat) : Prop := k = A.p ∨ k = A.fb ∨ k = A.sm ∨ k = A.bm ∨ d.sd.mine A.s A.m k
section
variable {w w' : World} {A : Pa} {d : Pd}
theorem Frs.lt (h : Frs w A d) : A.fb < w.heap.size := by obtain ⟨cur, hb, _⟩ := h; exact hb.lt
theorem Frs.same (h : Frs w A d) (hb : w'.heap[A.fb]? = w.heap[A.fb]?) : Frs w' A d := by obtain ⟨cur, h1, h2⟩ := h; exact ⟨cur, hb.trans h1, h2⟩
theorem Lay.flt (h : Lay w A d) {k : Nat} (hk : foot A d k) : k < w.heap.size := by
  rcases hk with rfl | rfl | rfl | rfl | hk
  · exact h.blk.lt
  · exact h.frs.lt
  · obtain ⟨q, _, hq⟩ := h.sts; exact hq.lt
  · exact h.bls.lt
  · exact h.sto.mlt hk
theorem Lay.same (h : Lay w A d) (hb : ∀ k, foot A d k → w'.heap[k]? = w.heap[k]?) : Lay w' A d := by
  obtain ⟨q, hq, hs⟩ := h.sts
  exact ⟨(hb A.p (.inl rfl)).trans h.blk, h.frs.same (hb A.fb (.inr (.inl rfl))), ⟨q, hq, hs.same (hb A.sm (.inr (.inr (.inl rfl))))⟩, h.bls.same (hb A.bm (.inr (.inr (.inr (.inl rfl))))), h.sto.same (fun k hk => hb k (.inr (.inr (.inr (.inr hk))))),
    h.ne1, h.ne2, h.ne3, h.n1, h.n2, h.cap1, h.cap2, h.hd, h.nof⟩
theorem Lay.fr {S : Nat → Prop} (h : Lay w A d) (hf : Fr S w w') (hS : ∀ k, foot A d k → ¬ S k) : Lay w' A d := h.same fun k hk => hf.block k (h.flt hk) (hS k hk)
theorem Lay.below (h : Lay w A d) (hb : Below w.heap.size w w') : Lay w' A d := h.same fun k hk => hb.block k (h.flt hk)
theorem Lay.alloc (h : Lay w A d) (o : Obj) : Lay (w.alloc o) A d := h.below ((Below.refl _ _).alloc (Nat.le_refl _) o)
theorem Lay.drewN (h : Lay w A d) (k : Nat) : Lay (w.drewN k) A d := h.same fun _ _ => rfl
theorem Lay.pfb (h : Lay w A d) : A.fb ≠ A.p := by obtain ⟨cur, hb, _⟩ := h.frs; exact hb.ne_ h.blk (by decide)
theorem Lay.psm (h : Lay w A d) : A.sm ≠ A.p := by obtain ⟨q, _, hs⟩ := h.sts; exact hs.ne_ h.blk
theorem Lay.pbm (h : Lay w A d) : A.bm ≠ A.p := h.bls.ne_ h.blk
theorem Lay.ps (h : Lay w A d) : A.s ≠ A.p := h.sto.blk.ne_ h.blk (by decide)
theorem Lay.pm (h : Lay w A d) : A.m ≠ A.p := h.sto.im.ne_ h.blk
theorem Lay.fsm (h : Lay w A d) : A.sm ≠ A.fb := by obtain ⟨cur, hb, _⟩ := h.frs; obtain ⟨q, _, hs⟩ := h.sts; exact hs.ne_ hb
theorem Lay.fbm (h : Lay w A d) : A.bm ≠ A.fb := by obtain ⟨cur, hb, _⟩ := h.frs; exact h.bls.ne_ hb
theorem Lay.fs (h : Lay w A d) : A.s ≠ A.fb := by obtain ⟨cur, hb, _⟩ := h.frs; exact h.sto.blk.ne_ hb (by decide)
theorem Lay.fm (h : Lay w A d) : A.m ≠ A.fb := by obtain ⟨cur, hb, _⟩ := h.frs; exact h.sto.im.ne_ hb
theorem Lay.ssm (h : Lay w A d) : A.sm ≠ A.s := by obtain ⟨q, _, hs⟩ := h.sts; exact hs.ne_ h.sto.blk
theorem Lay.sbm (h : Lay w A d) : A.bm ≠ A.s := h.bls.ne_ h.sto.blk
theorem Lay.mine_p (h : Lay w A d) : ¬ d.sd.mine A.s A.m A.p := by
  rintro (q | q | ⟨i, hi, q⟩)
  · exact h.ps q.symm
  · exact h.pm q.symm
  · obtain ⟨l, hl⟩ := Option.isSome_iff_exists.1 hi
    exact (h.sto.cont i l hl).2.2.ne_ h.blk (by decide) q
theorem Lay.mine_fb (h : Lay w A d) : ¬ d.sd.mine A.s A.m A.fb := by
  obtain ⟨cur, hb, _⟩ := h.frs
  rintro (q | q | ⟨i, hi, q⟩)
  · exact h.fs q.symm
  · exact h.fm q.symm
  · obtain ⟨l, hl⟩ := Option.isSome_iff_exists.1 hi
    exact (h.sto.cont i l hl).2.2.ne_ hb (by decide) q
theorem Lay.mine_sm (h : Lay w A d) : ¬ d.sd.mine A.s A.m A.sm := by
  obtain ⟨q', _, hs⟩ := h.sts
  rintro (q | q | ⟨i, hi, q⟩)
  · exact h.ssm q
  · exact h.ne2 q
  · obtain ⟨l, hl⟩ := Option.isSome_iff_exists.1 hi
    exact hs.ne_ (h.sto.cont i l hl).2.2 q.symm
theorem Lay.mine_bm (h : Lay w A d) : ¬ d.sd.mine A.s A.m A.bm := by
  rintro (q | q | ⟨i, hi, q⟩)
  · exact h.sbm q
  · exact h.ne3 q
  · obtain ⟨l, hl⟩ := Option.isSome_iff_exists.1 hi
    exact h.bls.ne_ (h.sto.cont i l hl).2.2 q.symm
/-- a cell of a frame -/
theorem Lay.fcell (h : Lay w A d) {i : Nat} (hi : i < d.n) (k : Nat) {v : Value} (hv : (frC d i)[k]? = some v) : w.cell? ⟨A.fb, i * 6 + k, none⟩ = some v := by
  obtain ⟨cur, hb, hc⟩ := h.frs
  rw [hb.cell]
  exact hc i hi k v hv
theorem Lay.ffrozen (h : Lay w A d) (j : Nat) : w.frozen? ⟨A.fb, j, none⟩ = false := by
  obtain ⟨cur, hb, hc⟩ := h.frs
  exact hb.frozen j
set_option maxRecDepth 100000 in
theorem works_ok (h : Lay w A d) : Calls Try.prog 43 #[.pointer (some ⟨A.p, 0, none⟩)] w fun e w' => e = .returned (.int .i64 0) ∧ w = w' := by
  have c6 : w.cell? ⟨A.p, 6, none⟩ = some (.int .i64 0) := h.blk.cell 6
  have c2 : w.cell? ⟨A.p, 2, none⟩ = some (.slice (some ⟨A.fb, 0, none⟩) d.n A.cap) := h.blk.cell 2
  have h1 := h.n1
  have h2 := h.n2
  clear h
  go_enter Try.func43, Try.ntmps43
  go_wp2
  go_ret
  exact ⟨rfl, rfl⟩
set_option maxRecDepth 100000 in
theorem Fault_ok (h : Lay w A d) : Calls Try.prog 19 #[.pointer (some ⟨A.p, 0, none⟩)] w fun e w' => e = .returned (.int .i64 0) ∧ w = w' := by
  have c6 : w.cell? ⟨A.p, 6, none⟩ = some (.int .i64 0) := h.blk.cell 6
  clear h
  go_enter Try.func19, Try.ntmps19
  go_wp2
  go_ret
  exact ⟨rfl, rfl⟩
set_option maxRecDepth 100000 in
theorem PSize_ok (h : Lay w A d) : Calls Try.prog 54 #[.pointer (some ⟨A.p, 0, none⟩)] w fun e w' => e = .returned (.int .i64 d.sd.size) ∧ w = w' := by
  have c1 : w.cell? ⟨A.p, 1, none⟩ = some (.pointer (some ⟨A.s, 0, none⟩)) := h.blk.cell 1
  have HS := Lib.hid (Size_any h.sto)
  clear h
  go_enter Try.func54, Try.ntmps54
  go_wp2_with (go_at_call 39; refine HS.out.mono ?_; rintro e w1 ⟨rfl, rfl⟩)
  go_ret
  exact ⟨rfl, rfl⟩
set_option maxRecDepth 100000 in
theorem met_ok (h : Lay w A d) : Calls Try.prog 67 #[.pointer (some ⟨A.p, 0, none⟩), .int .i64 0] w fun e w' => e = .returned (.int .i64 0) ∧ Lay w' A d ∧ Fr (· = A.p) w w' := by
  have c6 : w.cell? ⟨A.p, 6, none⟩ = some (.int .i64 0) := h.blk.cell 6
  have z6 := h.blk.frozen 6
  have H := Lib.hid h
  clear h
  go_enter Try.func67, Try.ntmps67
  go_wp2
  go_ret
  have hf : Fr (· = A.p) w (w.setCell ⟨A.p, 6, none⟩ (.int .i64 0)) := (Fr.refl (· = A.p) w).set_ (p := ⟨A.p, 6, none⟩) rfl _
  refine ⟨rfl, ?_, hf⟩
  have h := H.out
  obtain ⟨q, hq, hs⟩ := h.sts
  refine ⟨?_, h.frs.same (hf.block _ h.frs.lt h.pfb), ⟨q, hq, hs.fr hf h.psm⟩, h.bls.fr hf h.pbm, h.sto.fr hf (fun k hk e => h.mine_p (e ▸ hk)), h.ne1, h.ne2, h.ne3, h.n1, h.n2, h.cap1, h.cap2, h.hd, h.nof⟩
  exact h.blk.set_ 6 _
end
set_option maxHeartbeats 1000000 in
set_option maxRecDepth 100000 in
/-- whether bytes are all 0 -/
theorem zero_any (B : Option Addr) (n cap : Nat) (l : List Nat) (w : World) (hb : Byt w B n cap l) :
    Calls Try.prog 69 #[.slice B n cap] w fun e w' => e = .returned (.bool (l.all (· == 0))) ∧ w = w' := by
  have hn9 : n ≤ 9223372036854775807 := Nat.le_trans hb.2.2.1 hb.2.2.2.1
  have HL : Hid (l.length = n) := Lib.hid hb.1
  have HX := Lib.hid hb.2.1
  have HC := Lib.hid hb.2.2.2.2
  clear hb
  go_enter Try.func69, Try.ntmps69
  go_wp2
  go_loop [7] (fun v7 => ∃ k : Nat, k ≤ n ∧ v7 = .int .i64 k ∧ Hid (∀ i, i < k → l.getD i 0 = 0)) (fun v7 => n - (intOf v7).toNat)
  case atStart => exact ⟨0, Nat.zero_le _, rfl, Lib.hid (fun i hi => absurd hi (Nat.not_lt_zero _))⟩
  case round =>
    obtain ⟨k, hk, rfl, HZ⟩ := hrel
    by_cases hlt : k < n
    · obtain ⟨b, off, rfl, _, hcell⟩ := HC.out (by omega)
      have hc := hcell k hlt
      obtain ⟨x, ex⟩ : ∃ x, x = l.getD k 0 := ⟨_, rfl⟩
      rw [← ex] at hc
      have HE := Lib.hid ex
      clear hcell ex
      by_cases h0 : x = 0
      · subst h0
        go_wp2
        go_round
        case rel => exact ⟨k + 1, by omega, by go_num, Lib.hid (fun i hi => by
          by_cases e : i = k
          · rw [e]; exact HE.out.symm
          · exact HZ.out i (by omega))⟩
        case measure => simp [intOf]; omega
      · have hne : ((x : Int) != 0) = true := by simp; omega
        have H0 := Lib.hid h0
        clear h0
        go_wp2
        go_ret
        refine ⟨ret_bool ?_, rfl⟩
        symm
        rw [List.all_eq_false]
        have hkl : k < l.length := by rw [HL.out]; exact hlt
        refine ⟨l[k], List.getElem_mem hkl, ?_⟩
        have := HE.out
        rw [List.getD_eq_getElem?_getD, List.getElem?_eq_getElem hkl] at this
        have h1 := H0.out
        simp only [Option.getD_some] at this
        simp
        omega
    · obtain rfl : k = n := by omega
      go_wp2
      go_ret
      refine ⟨ret_bool ?_, rfl⟩
      symm
      rw [List.all_eq_true]
      intro x hx
      obtain ⟨i, hi, rfl⟩ := List.mem_iff_getElem.1 hx
      have := HZ.out i (by rw [← HL.out]; exact hi)
      rw [List.getD_eq_getElem?_getD, List.getElem?_eq_getElem hi] at this
      simpa using this
end Go.Proofs.Ytlnffcledpccjaa
