/-
  What is known of a pager: its struct, its frames, its two maps, its store; works, met, Size, free, zero.
-/
import Derived.Test.YtlnffcledpccjaaGa
import Derived.Test.YtlnffcledpccjaaSh
namespace Go.Proofs.Ytlnffcledpccjaa
open Go.RowKit
set_option linter.unusedVariables false
/-- a pager as it is told: its frames' rooms, their pages, whether they are taken, touched, changed; where pages stand, and which blocks they have; its store -/
structure Pd where
  n : Nat
  room : Nat → Nat
  pg : Nat → Nat × Nat
  tk : Nat → Bool
  th : Nat → Bool
  ch : Nat → Bool
  hand : Nat
  st : Nat × Nat → Option Nat
  blk : Nat × Nat → Option Nat
  sd : Sd
/-- where it lies -/
structure Pa where
  p : Nat
  fb : Nat
  cap : Nat
  sm : Nat
  bm : Nat
  s : Nat
  m : Nat
  a : Nat
def frC (d : Pd) (i : Nat) : List Value := [I64 (d.room i), I64 (d.pg i).1, I64 (d.pg i).2, .bool (d.tk i), .bool (d.th i), .bool (d.ch i)]
def pgC (A : Pa) (d : Pd) : Array Value := #[.pointer (some ⟨A.a, 0, none⟩), .pointer (some ⟨A.s, 0, none⟩), .slice (some ⟨A.fb, 0, none⟩) d.n A.cap, .map (some A.sm), .map (some A.bm), .int .i64 d.hand, .int .i64 0]
def Frs (w : World) (A : Pa) (d : Pd) : Prop := ∃ cur, Blk w A.fb 106 cur ∧ ∀ i, i < d.n → ∀ (k : Nat) (v : Value), (frC d i)[k]? = some v → cur[i * 6 + k]? = some v
structure Lay (w : World) (A : Pa) (d : Pd) : Prop where
  blk : Blk w A.p 102 (pgC A d)
  frs : Frs w A d
  sts : ∃ q, q ≤ 1000000 ∧ PM w A.sm q d.st
  bls : PM w A.bm d.sd.n d.blk
  sto : Sto w A.s A.m d.sd
  ne1 : A.sm ≠ A.bm
  ne2 : A.sm ≠ A.m
  ne3 : A.bm ≠ A.m
  n1 : 1 ≤ d.n
  n2 : d.n ≤ 64
  cap1 : d.n ≤ A.cap
  cap2 : A.cap ≤ maxLen
  hd : d.hand < d.n
  nof : d.sd.fails < 0
def foot (A : Pa) (d : Pd) (k : Nat) : Prop := k = A.p ∨ k = A.fb ∨ k = A.sm ∨ k = A.bm ∨ d.sd.mine A.s A.m k
section
variable {w w' : World} {A : Pa} {d : Pd}
theorem Frs.lt (h : Frs w A d) : A.fb < w.heap.size := by obtain ⟨cur, hb, _⟩ := h; exact hb.lt
theorem Frs.same (h : Frs w A d) (hb : w'.heap[A.fb]? = w.heap[A.fb]?) : Frs w' A d := by obtain ⟨cur, h1, h2⟩ := h; exact ⟨cur, hb.trans h1, h2⟩
theorem Lay.flt (h : Lay w A d) {k : Nat} (hk : foot A d k) : k < w.heap.size := by
  rcases hk with rfl | rfl | rfl | rfl | hk
  · exact h.blk.lt
  · exact h.frs.lt
  · obtain ⟨q, _, hq⟩ := h.sts; exact hq.lt
  · exact h.bls.lt
  · exact h.sto.mlt hk
theorem Lay.same (h : Lay w A d) (hb : ∀ k, foot A d k → w'.heap[k]? = w.heap[k]?) : Lay w' A d := by
  obtain ⟨q, hq, hs⟩ := h.sts
  exact ⟨(hb A.p (.inl rfl)).trans h.blk, h.frs.same (hb A.fb (.inr (.inl rfl))), ⟨q, hq, hs.same (hb A.sm (.inr (.inr (.inl rfl))))⟩, h.bls.same (hb A.bm (.inr (.inr (.inr (.inl rfl))))), h.sto.same (fun k hk => hb k (.inr (.inr (.inr (.inr hk))))),
    h.ne1, h.ne2, h.ne3, h.n1, h.n2, h.cap1, h.cap2, h.hd, h.nof⟩
theorem Lay.fr {S : Nat → Prop} (h : Lay w A d) (hf : Fr S w w') (hS : ∀ k, foot A d k → ¬ S k) : Lay w' A d := h.same fun k hk => hf.block k (h.flt hk) (hS k hk)
theorem Lay.below (h : Lay w A d) (hb : Below w.heap.size w w') : Lay w' A d := h.same fun k hk => hb.block k (h.flt hk)
theorem Lay.alloc (h : Lay w A d) (o : Obj) : Lay (w.alloc o) A d := h.below ((Below.refl _ _).alloc (Nat.le_refl _) o)
theorem Lay.drewN (h : Lay w A d) (k : Nat) : Lay (w.drewN k) A d := h.same fun _ _ => rfl
theorem Lay.pfb (h : Lay w A d) : A.fb ≠ A.p := by obtain ⟨cur, hb, _⟩ := h.frs; exact hb.ne_ h.blk (by decide)
theorem Lay.psm (h : Lay w A d) : A.sm ≠ A.p := by obtain ⟨q, _, hs⟩ := h.sts; exact hs.ne_ h.blk
theorem Lay.pbm (h : Lay w A d) : A.bm ≠ A.p := h.bls.ne_ h.blk
theorem Lay.ps (h : Lay w A d) : A.s ≠ A.p := h.sto.blk.ne_ h.blk (by decide)
theorem Lay.pm (h : Lay w A d) : A.m ≠ A.p := h.sto.im.ne_ h.blk
theorem Lay.fsm (h : Lay w A d) : A.sm ≠ A.fb := by obtain ⟨cur, hb, _⟩ := h.frs; obtain ⟨q, _, hs⟩ := h.sts; exact hs.ne_ hb
theorem Lay.fbm (h : Lay w A d) : A.bm ≠ A.fb := by obtain ⟨cur, hb, _⟩ := h.frs; exact h.bls.ne_ hb
theorem Lay.fs (h : Lay w A d) : A.s ≠ A.fb := by obtain ⟨cur, hb, _⟩ := h.frs; exact h.sto.blk.ne_ hb (by decide)
theorem Lay.fm (h : Lay w A d) : A.m ≠ A.fb := by obtain ⟨cur, hb, _⟩ := h.frs; exact h.sto.im.ne_ hb
theorem Lay.ssm (h : Lay w A d) : A.sm ≠ A.s := by obtain ⟨q, _, hs⟩ := h.sts; exact hs.ne_ h.sto.blk
theorem Lay.sbm (h : Lay w A d) : A.bm ≠ A.s := h.bls.ne_ h.sto.blk
theorem Lay.mine_p (h : Lay w A d) : ¬ d.sd.mine A.s A.m A.p := by
  rintro (q | q | ⟨i, hi, q⟩)
  · exact h.ps q.symm
  · exact h.pm q.symm
  · obtain ⟨l, hl⟩ := Option.isSome_iff_exists.1 hi
    exact (h.sto.cont i l hl).2.2.ne_ h.blk (by decide) q
theorem Lay.mine_fb (h : Lay w A d) : ¬ d.sd.mine A.s A.m A.fb := by
  obtain ⟨cur, hb, _⟩ := h.frs
  rintro (q | q | ⟨i, hi, q⟩)
  · exact h.fs q.symm
  · exact h.fm q.symm
  · obtain ⟨l, hl⟩ := Option.isSome_iff_exists.1 hi
    exact (h.sto.cont i l hl).2.2.ne_ hb (by decide) q
theorem Lay.mine_sm (h : Lay w A d) : ¬ d.sd.mine A.s A.m A.sm := by
  obtain ⟨q', _, hs⟩ := h.sts
  rintro (q | q | ⟨i, hi, q⟩)
  · exact h.ssm q
  · exact h.ne2 q
  · obtain ⟨l, hl⟩ := Option.isSome_iff_exists.1 hi
    exact hs.ne_ (h.sto.cont i l hl).2.2 q.symm
theorem Lay.mine_bm (h : Lay w A d) : ¬ d.sd.mine A.s A.m A.bm := by
  rintro (q | q | ⟨i, hi, q⟩)
  · exact h.sbm q
  · exact h.ne3 q
  · obtain ⟨l, hl⟩ := Option.isSome_iff_exists.1 hi
    exact h.bls.ne_ (h.sto.cont i l hl).2.2 q.symm
/-- a cell of a frame -/
theorem Lay.fcell (h : Lay w A d) {i : Nat} (hi : i < d.n) (k : Nat) {v : Value} (hv : (frC d i)[k]? = some v) : w.cell? ⟨A.fb, i * 6 + k, none⟩ = some v := by
  obtain ⟨cur, hb, hc⟩ := h.frs
  rw [hb.cell]
  exact hc i hi k v hv
theorem Lay.ffrozen (h : Lay w A d) (j : Nat) : w.frozen? ⟨A.fb, j, none⟩ = false := by
  obtain ⟨cur, hb, hc⟩ := h.frs
  exact hb.frozen j
set_option maxRecDepth 100000 in
theorem works_ok (h : Lay w A d) : Calls Try.prog 43 #[.pointer (some ⟨A.p, 0, none⟩)] w fun e w' => e = .returned (.int .i64 0) ∧ w = w' := by
  have c6 : w.cell? ⟨A.p, 6, none⟩ = some (.int .i64 0) := h.blk.cell 6
  have c2 : w.cell? ⟨A.p, 2, none⟩ = some (.slice (some ⟨A.fb, 0, none⟩) d.n A.cap) := h.blk.cell 2
  have h1 := h.n1
  have h2 := h.n2
  clear h
  go_enter Try.func43, Try.ntmps43
  go_wp2
  go_ret
  exact ⟨rfl, rfl⟩
set_option maxRecDepth 100000 in
theorem Fault_ok (h : Lay w A d) : Calls Try.prog 19 #[.pointer (some ⟨A.p, 0, none⟩)] w fun e w' => e = .returned (.int .i64 0) ∧ w = w' := by
  have c6 : w.cell? ⟨A.p, 6, none⟩ = some (.int .i64 0) := h.blk.cell 6
  clear h
  go_enter Try.func19, Try.ntmps19
  go_wp2
  go_ret
  exact ⟨rfl, rfl⟩
set_option maxRecDepth 100000 in
theorem PSize_ok (h : Lay w A d) : Calls Try.prog 54 #[.pointer (some ⟨A.p, 0, none⟩)] w fun e w' => e = .returned (.int .i64 d.sd.size) ∧ w = w' := by
  have c1 : w.cell? ⟨A.p, 1, none⟩ = some (.pointer (some ⟨A.s, 0, none⟩)) := h.blk.cell 1
  have HS := Lib.hid (Size_any h.sto)
  clear h
  go_enter Try.func54, Try.ntmps54
  go_wp2_with (go_at_call 39; refine HS.out.mono ?_; rintro e w1 ⟨rfl, rfl⟩)
  go_ret
  exact ⟨rfl, rfl⟩
set_option maxRecDepth 100000 in
theorem met_ok (h : Lay w A d) : Calls Try.prog 67 #[.pointer (some ⟨A.p, 0, none⟩), .int .i64 0] w fun e w' => e = .returned (.int .i64 0) ∧ Lay w' A d ∧ Fr (· = A.p) w w' := by
  have c6 : w.cell? ⟨A.p, 6, none⟩ = some (.int .i64 0) := h.blk.cell 6
  have z6 := h.blk.frozen 6
  have H := Lib.hid h
  clear h
  go_enter Try.func67, Try.ntmps67
  go_wp2
  go_ret
  have hf : Fr (· = A.p) w (w.setCell ⟨A.p, 6, none⟩ (.int .i64 0)) := (Fr.refl (· = A.p) w).set_ (p := ⟨A.p, 6, none⟩) rfl _
  refine ⟨rfl, ?_, hf⟩
  have h := H.out
  obtain ⟨q, hq, hs⟩ := h.sts
  refine ⟨?_, h.frs.same (hf.block _ h.frs.lt h.pfb), ⟨q, hq, hs.fr hf h.psm⟩, h.bls.fr hf h.pbm, h.sto.fr hf (fun k hk e => h.mine_p (e ▸ hk)), h.ne1, h.ne2, h.ne3, h.n1, h.n2, h.cap1, h.cap2, h.hd, h.nof⟩
  exact h.blk.set_ 6 _
end
set_option maxHeartbeats 1000000 in
set_option maxRecDepth 100000 in
/-- whether bytes are all 0 -/
theorem zero_any (B : Option Addr) (n cap : Nat) (l : List Nat) (w : World) (hb : Byt w B n cap l) :
    Calls Try.prog 69 #[.slice B n cap] w fun e w' => e = .returned (.bool (l.all (· == 0))) ∧ w = w' := by
  have hn9 : n ≤ 9223372036854775807 := Nat.le_trans hb.2.2.1 hb.2.2.2.1
  have HL : Hid (l.length = n) := Lib.hid hb.1
  have HX := Lib.hid hb.2.1
  have HC := Lib.hid hb.2.2.2.2
  clear hb
  go_enter Try.func69, Try.ntmps69
  go_wp2
  go_loop [7] (fun v7 => ∃ k : Nat, k ≤ n ∧ v7 = .int .i64 k ∧ Hid (∀ i, i < k → l.getD i 0 = 0)) (fun v7 => n - (intOf v7).toNat)
  case atStart => exact ⟨0, Nat.zero_le _, rfl, Lib.hid (fun i hi => absurd hi (Nat.not_lt_zero _))⟩
  case round =>
    obtain ⟨k, hk, rfl, HZ⟩ := hrel
    by_cases hlt : k < n
    · obtain ⟨b, off, rfl, _, hcell⟩ := HC.out (by omega)
      have hc := hcell k hlt
      obtain ⟨x, ex⟩ : ∃ x, x = l.getD k 0 := ⟨_, rfl⟩
      rw [← ex] at hc
      have HE := Lib.hid ex
      clear hcell ex
      by_cases h0 : x = 0
      · subst h0
        go_wp2
        go_round
        case rel => exact ⟨k + 1, by omega, by go_num, Lib.hid (fun i hi => by
          by_cases e : i = k
          · rw [e]; exact HE.out.symm
          · exact HZ.out i (by omega))⟩
        case measure => simp [intOf]; omega
      · have hne : ((x : Int) != 0) = true := by simp; omega
        have H0 := Lib.hid h0
        clear h0
        go_wp2
        go_ret
        refine ⟨ret_bool ?_, rfl⟩
        symm
        rw [List.all_eq_false]
        have hkl : k < l.length := by rw [HL.out]; exact hlt
        refine ⟨l[k], List.getElem_mem hkl, ?_⟩
        have := HE.out
        rw [List.getD_eq_getElem?_getD, List.getElem?_eq_getElem hkl] at this
        have h1 := H0.out
        simp only [Option.getD_some] at this
        simp
        omega
    · obtain rfl : k = n := by omega
      go_wp2
      go_ret
      refine ⟨ret_bool ?_, rfl⟩
      symm
      rw [List.all_eq_true]
      intro x hx
      obtain ⟨i, hi, rfl⟩ := List.mem_iff_getElem.1 hx
      have := HZ.out i (by rw [← HL.out]; exact hi)
      rw [List.getD_eq_getElem?_getD, List.getElem?_eq_getElem hi] at this
      simpa using this
end Go.Proofs.Ytlnffcledpccjaa
/-
  pager.Pager.free, load, keep.
-/
namespace Go.Proofs.Ytlnffcledpccjaa
open Go.RowKit
set_option linter.unusedVariables false
def Pd.fre (d : Pd) (x : Nat × Nat) (id : Nat) : Pd := { d with blk := upd d.blk x none, sd := d.sd.op.fr id }
set_option maxHeartbeats 1000000 in
set_option maxRecDepth 100000 in
theorem free_no {w : World} {A : Pa} {d : Pd} (h : Lay w A d) (a b : Nat) (hx : small (a, b)) (hn : d.blk (a, b) = none) :
    Calls Try.prog 45 #[.pointer (some ⟨A.p, 0, none⟩), .agg #[.int .i64 a, .int .i64 b]] w fun e w' => e = .returned (.int .i64 0) ∧ Fr (fun _ => False) w w' := by
  have c4 : w.cell? ⟨A.p, 4, none⟩ = some (.map (some A.bm)) := h.blk.cell 4
  have hl : ∀ k, (Instr.lookup 99 (.map (some A.bm)) (.agg #[.int .i64 a, .int .i64 b]) true).run Try.prog ((w.alloc (Obj.cells #[.int .i64 a, .int .i64 b] 104)).drewN k) = .ok (.tuple #[.int .i64 0, .bool false]) ((w.alloc (Obj.cells #[.int .i64 a, .int .i64 b] 104)).drewN k) := fun k => by
    have := ((h.bls.alloc (Obj.cells #[.int .i64 a, .int .i64 b] 104)).drewN k).look Try.underlying99 hx true
    rw [hn] at this
    exact this
  have hlt := h.blk.lt
  clear h hn
  go_enter Try.func45, Try.ntmps45
  go_wp2
  go_quiet (fail)
  go_wp2
  go_ret
  exact ⟨rfl, ((Fr.refl _ w).alloc _).drewN _⟩
/-- the store and the map turned together -/
theorem Lay.bmsd {w w' : World} {A : Pa} {d : Pd} {f : Nat × Nat → Option Nat} {sd : Sd} {S : Nat → Prop} (h : Lay w A d) (hf : Fr S w w') (hS1 : ¬ S A.p) (hS2 : ¬ S A.fb) (hS3 : ¬ S A.sm) (hb : PM w' A.bm sd.n f) (hs : Sto w' A.s A.m sd) (hn : sd.fails < 0) :
    Lay w' A { d with blk := f, sd := sd } := by
  obtain ⟨q, hq, hst⟩ := h.sts
  exact ⟨h.blk.fr hf hS1, h.frs.same (hf.block _ h.frs.lt hS2), ⟨q, hq, hst.fr hf hS3⟩, hb, hs, h.ne1, h.ne2, h.ne3, h.n1, h.n2, h.cap1, h.cap2, h.hd, hn⟩
def frS (A : Pa) (k : Nat) : Prop := k = A.p ∨ k = A.bm ∨ k = A.s ∨ k = A.m
set_option maxHeartbeats 2000000 in
set_option maxRecDepth 100000 in
theorem free_yes {w : World} {A : Pa} {d : Pd} (h : Lay w A d) (a b id : Nat) (hx : small (a, b)) (hn : d.blk (a, b) = some id) (hB : (d.sd.B id).isSome = true) (ho : d.sd.ops < 1000000) :
    Calls Try.prog 45 #[.pointer (some ⟨A.p, 0, none⟩), .agg #[.int .i64 a, .int .i64 b]] w fun e w' => e = .returned (.int .i64 0) ∧ Lay w' A (d.fre (a, b) id) ∧ Fr (frS A) w w' := by
  have c4 : w.cell? ⟨A.p, 4, none⟩ = some (.map (some A.bm)) := h.blk.cell 4
  have c1 : w.cell? ⟨A.p, 1, none⟩ = some (.pointer (some ⟨A.s, 0, none⟩)) := h.blk.cell 1
  have hl : ∀ k, (Instr.lookup 99 (.map (some A.bm)) (.agg #[.int .i64 a, .int .i64 b]) true).run Try.prog ((w.alloc (Obj.cells #[.int .i64 a, .int .i64 b] 104)).drewN k) = .ok (.tuple #[.int .i64 id, .bool true]) ((w.alloc (Obj.cells #[.int .i64 a, .int .i64 b] 104)).drewN k) := fun k => by
    have := ((h.bls.alloc (Obj.cells #[.int .i64 a, .int .i64 b] 104)).drewN k).look Try.underlying99 hx true
    rw [hn] at this
    exact this
  have hlt := h.blk.lt
  have H := Lib.hid h
  have HN := Lib.hid hn
  have HBi := Lib.hid hB
  have HX := Lib.hid hx
  clear h hn hB hx
  go_enter Try.func45, Try.ntmps45
  go_wp2
  go_quiet (fail)
  clear hl c1 c4
  have hF0 : Fr (fun _ => False) w ((w.alloc (Obj.cells #[.int .i64 a, .int .i64 b] 104)).drewN nq) := ((Fr.refl _ w).alloc _).drewN _
  have hX0 : Blk ((w.alloc (Obj.cells #[.int .i64 a, .int .i64 b] 104)).drewN nq) w.heap.size 104 #[.int .i64 a, .int .i64 b] := (Blk.new w 104 _).drewN nq
  have hL0 : Lay ((w.alloc (Obj.cells #[.int .i64 a, .int .i64 b] 104)).drewN nq) A d := (H.out.alloc _).drewN nq
  generalize (w.alloc (Obj.cells #[.int .i64 a, .int .i64 b] 104)).drewN nq = W at hF0 hX0 hL0 ⊢
  obtain ⟨w2, hrun, hpm, hturn⟩ := (hL0.bls.drewN 1).drop Try.underlying99 HX.out 0
  have c4 : W.cell? ⟨A.p, 4, none⟩ = some (.map (some A.bm)) := hL0.blk.cell 4
  have x0 : W.cell? ⟨w.heap.size, 0, none⟩ = some (.int .i64 a) := hX0.cell 0
  have x1 : W.cell? ⟨w.heap.size, 1, none⟩ = some (.int .i64 b) := hX0.cell 1
  have hrun' : (Builtin.delete_ #[99, 104] 0 #[.map (some A.bm), .agg #[.int .i64 a, .int .i64 b]]).run Try.prog W.drew = .ok (.tuple #[]) w2 := hrun
  have hf2 : Fr (· = A.bm) W w2 := (Fr.refl _ W).drew.trans (turned_fr hturn)
  have hb2 : PM w2 A.bm (d.sd.n - 1) (upd d.blk (a, b) none) := by rw [HN.out] at hpm; exact hpm
  have hS2 : Sto w2 A.s A.m d.sd := hL0.sto.fr hf2 (fun k hk e => hL0.mine_bm (e ▸ hk))
  have HS2 := Lib.hid hS2
  have HB2 := Lib.hid hb2
  have HF2 := Lib.hid hf2
  have HF0 := Lib.hid hF0
  have HL0 := Lib.hid hL0
  have c1' : w2.cell? ⟨A.p, 1, none⟩ = some (.pointer (some ⟨A.s, 0, none⟩)) := (hL0.blk.fr hf2 (Ne.symm hL0.pbm)).cell 1
  clear hrun hpm hturn hf2 hb2 hS2 hF0 hX0 hL0 hlt H
  go_wp2
  go_region
  all_goals
    clear hrun' c4 x0 x1
    go_wp2_with (first
      | (go_at_call 68
         refine (Free_ok A.s A.m d.sd id _ HS2.out HBi.out ho (Sd.fl_no HL0.out.nof)).mono ?_
         rintro e w3 ⟨rfl, h3, f3⟩
         have hlay : Lay w3 A (d.fre (a, b) id) := by
           have hf : Fr (frS A) W w3 := (HF2.out.more (fun k hk => .inr (.inl hk))).trans (f3.more (fun k hk => by rcases hk with q | q; exact .inr (.inr (.inl q)); exact .inr (.inr (.inr q))))
           refine HL0.out.bmsd (f := upd d.blk (a, b) none) (sd := d.sd.op.fr id) (S := fun k => k = A.bm ∨ k = A.s ∨ k = A.m) ((HF2.out.more (fun k hk => .inl hk)).trans (f3.more (fun k hk => .inr hk))) ?_ ?_ ?_ (HB2.out.fr f3 ?_) h3 HL0.out.nof
           · rintro (q | q | q)
             · exact HL0.out.pbm q.symm
             · exact HL0.out.ps q.symm
             · exact HL0.out.pm q.symm
           · rintro (q | q | q)
             · exact HL0.out.fbm q.symm
             · exact HL0.out.fs q.symm
             · exact HL0.out.fm q.symm
           · rintro (q | q | q)
             · exact HL0.out.ne1 q
             · exact HL0.out.ssm q
             · exact HL0.out.ne2 q
           · rintro (q | q)
             · exact HL0.out.sbm q
             · exact HL0.out.ne3 q
         have HL3 := Lib.hid hlay
         have HF3 := Lib.hid f3
         clear h3 f3 hlay)
      | (go_at_call 67; refine (met_ok HL3.out).mono ?_; rintro e w4 ⟨rfl, h4, f4⟩; have HL4 := Lib.hid h4; have HF4 := Lib.hid f4; clear h4 f4))
    go_ret
    refine ⟨rfl, HL4.out, ?_⟩
    exact (((HF0.out.more (fun _ q => q.elim)).trans (HF2.out.more (fun k hk => .inr (.inl hk)))).trans (HF3.out.more (fun k hk => by rcases hk with q | q; exact .inr (.inr (.inl q)); exact .inr (.inr (.inr q))))).trans (HF4.out.more (fun k hk => .inl hk))
end Go.Proofs.Ytlnffcledpccjaa
/-
  pager.Pager.load, keep.
-/
namespace Go.Proofs.Ytlnffcledpccjaa
open Go.RowKit
set_option linter.unusedVariables false
def LdPost (A : Pa) (d d' : Pd) (l : List Nat) (w : World) (e : Ending) (w' : World) : Prop :=
  ∃ g : Nat, e = .returned (.tuple #[.slice (some ⟨g, 0, none⟩) d.sd.size d.sd.size, .int .i64 0]) ∧ w.heap.size ≤ g ∧ Byt w' (some ⟨g, 0, none⟩) d.sd.size d.sd.size l ∧ Lay w' A d' ∧ Fr (foot A d) w w'
set_option maxHeartbeats 1000000 in
set_option maxRecDepth 100000 in
theorem load_none {w : World} {A : Pa} {d : Pd} (h : Lay w A d) (a b : Nat) (hx : small (a, b)) (hn : d.blk (a, b) = none) :
    Calls Try.prog 87 #[.pointer (some ⟨A.p, 0, none⟩), .agg #[.int .i64 a, .int .i64 b]] w (LdPost A d d (zs d.sd.size) w) := by
  obtain ⟨i0, hi, hz0, hz1, hz2⟩ := info_parts info5
  have c4 : w.cell? ⟨A.p, 4, none⟩ = some (.map (some A.bm)) := h.blk.cell 4
  have hl : ∀ k, (Instr.lookup 99 (.map (some A.bm)) (.agg #[.int .i64 a, .int .i64 b]) true).run Try.prog ((w.alloc (Obj.cells #[.int .i64 a, .int .i64 b] 104)).drewN k) = .ok (.tuple #[.int .i64 0, .bool false]) ((w.alloc (Obj.cells #[.int .i64 a, .int .i64 b] 104)).drewN k) := fun k => by
    have := ((h.bls.alloc (Obj.cells #[.int .i64 a, .int .i64 b] 104)).drewN k).look Try.underlying99 hx true
    rw [hn] at this
    exact this
  have hlt := h.blk.lt
  have hs1 := h.sto.lo
  have hs2 := h.sto.hi
  have H := Lib.hid h
  clear h hn
  go_enter Try.func87, Try.ntmps87
  go_wp2
  go_quiet (fail)
  clear hl c4
  have hF0 : Fr (fun _ => False) w ((w.alloc (Obj.cells #[.int .i64 a, .int .i64 b] 104)).drewN nq) := ((Fr.refl _ w).alloc _).drewN _
  have hL0 : Lay ((w.alloc (Obj.cells #[.int .i64 a, .int .i64 b] 104)).drewN nq) A d := (H.out.alloc _).drewN nq
  generalize (w.alloc (Obj.cells #[.int .i64 a, .int .i64 b] 104)).drewN nq = W at hF0 hL0 ⊢
  have HS := Lib.hid (PSize_ok hL0)
  have HF0 := Lib.hid hF0
  have HL0 := Lib.hid hL0
  clear hF0 hL0 hlt
  go_wp2_with (first
    | (go_at_call 54; refine HS.out.mono ?_; rintro e w1 ⟨rfl, rfl⟩)
    | (at_make
       refine wpList_make_lc _ rfl (.tmp 22) (.tmp 22) 34 rfl 5 i0 _ Try.underlying34 hi hz0 hz1 .i64 .i64 _ _ d.sd.size d.sd.size rfl rfl rfl rfl (Nat.le_refl _) (by rw [hz2]; omega) (by unfold maxLen; omega) ?_
       intro w2 hg2 hbel2
       have HG2 := Lib.hid hg2.out
       have HB2 := Lib.hid hbel2
       clear hg2 hbel2))
  go_ret2
  have hb : Blk w2 W.heap.size 5 ((zs d.sd.size).map U8).toArray := by
    have := HG2.out
    rw [made_zs] at this
    exact this
  refine ⟨W.heap.size, rfl, HF0.out.size, byt_of_blk hb (by simp [zs]) (fun x hx => by have := List.eq_of_mem_replicate hx; omega) (by unfold maxLen; omega), HL0.out.below HB2.out, (HF0.out.more (fun _ q => q.elim)).trans (Fr.of_below HB2.out)⟩
set_option maxHeartbeats 1000000 in
set_option maxRecDepth 100000 in
theorem load_some {w : World} {A : Pa} {d : Pd} (h : Lay w A d) (a b id : Nat) (l : List Nat) (hx : small (a, b)) (hn : d.blk (a, b) = some id) (hB : d.sd.B id = some l) (ho : d.sd.ops < 1000000) :
    Calls Try.prog 87 #[.pointer (some ⟨A.p, 0, none⟩), .agg #[.int .i64 a, .int .i64 b]] w (LdPost A d { d with sd := d.sd.op } l w) := by
  have c4 : w.cell? ⟨A.p, 4, none⟩ = some (.map (some A.bm)) := h.blk.cell 4
  have hl : ∀ k, (Instr.lookup 99 (.map (some A.bm)) (.agg #[.int .i64 a, .int .i64 b]) true).run Try.prog ((w.alloc (Obj.cells #[.int .i64 a, .int .i64 b] 104)).drewN k) = .ok (.tuple #[.int .i64 id, .bool true]) ((w.alloc (Obj.cells #[.int .i64 a, .int .i64 b] 104)).drewN k) := fun k => by
    have := ((h.bls.alloc (Obj.cells #[.int .i64 a, .int .i64 b] 104)).drewN k).look Try.underlying99 hx true
    rw [hn] at this
    exact this
  have hlt := h.blk.lt
  have H := Lib.hid h
  have HBi := Lib.hid hB
  clear h hn hB
  go_enter Try.func87, Try.ntmps87
  go_wp2
  go_quiet (fail)
  clear hl c4
  have hF0 : Fr (fun _ => False) w ((w.alloc (Obj.cells #[.int .i64 a, .int .i64 b] 104)).drewN nq) := ((Fr.refl _ w).alloc _).drewN _
  have hL0 : Lay ((w.alloc (Obj.cells #[.int .i64 a, .int .i64 b] 104)).drewN nq) A d := (H.out.alloc _).drewN nq
  generalize (w.alloc (Obj.cells #[.int .i64 a, .int .i64 b] 104)).drewN nq = W at hF0 hL0 ⊢
  have c1 : W.cell? ⟨A.p, 1, none⟩ = some (.pointer (some ⟨A.s, 0, none⟩)) := hL0.blk.cell 1
  have HR := Lib.hid (Read_ok A.s A.m d.sd id l W hL0.sto HBi.out ho (Sd.fl_no hL0.nof))
  have HF0 := Lib.hid hF0
  have HL0 := Lib.hid hL0
  unfold RePost at HR
  clear hF0 hL0 hlt
  go_wp2_with (first
    | (go_at_call 104
       refine HR.out.mono ?_
       rintro e w1 ⟨g, rfl, hg, hb, _, hs, hf⟩
       have hlay : Lay w1 A { d with sd := d.sd.op } := HL0.out.bmsd (f := d.blk) hf (Ne.symm HL0.out.ps) (Ne.symm HL0.out.fs) HL0.out.ssm (HL0.out.bls.fr hf HL0.out.sbm) hs HL0.out.nof
       have HG := Lib.hid hg
       have HY := Lib.hid hb
       have HL1 := Lib.hid hlay
       have HF1 := Lib.hid hf
       clear hg hb hs hf hlay)
    | (go_at_call 67; refine (met_ok HL1.out).mono ?_; rintro e w2 ⟨rfl, h2, f2⟩; have HL2 := Lib.hid h2; have HF2 := Lib.hid f2; clear h2 f2))
  go_ret2
  have hgp : g ≠ A.p := by have := HL0.out.blk.lt; have := HG.out; omega
  refine ⟨g, rfl, Nat.le_trans HF0.out.size HG.out, HY.out.fr HF2.out hgp, HL2.out, ((HF0.out.more (fun _ q => q.elim)).trans (HF1.out.more (fun k hk => .inr (.inr (.inr (.inr (.inl hk))))))).trans (HF2.out.more (fun k hk => .inl hk))⟩
theorem Fr.al {S T : Nat → Prop} {w w' : World} (h : Fr S w w') (hS : ∀ k, S k → T k) : Fr T w w' := h.more hS
theorem foot_op (A : Pa) (d : Pd) : foot A { d with sd := d.sd.op } = foot A d := rfl
/-- what belongs to the pager behind a store's write -/
theorem foot_wr {A : Pa} {d : Pd} {id : Nat} {l : List Nat} (hi : (d.sd.B id).isSome) {k : Nat} : foot A { d with sd := d.sd.op.wr id l } k → foot A d k := by
  rintro (q | q | q | q | q | q | ⟨i, hi', q⟩)
  · exact .inl q
  · exact .inr (.inl q)
  · exact .inr (.inr (.inl q))
  · exact .inr (.inr (.inr (.inl q)))
  · exact .inr (.inr (.inr (.inr (.inl q))))
  · exact .inr (.inr (.inr (.inr (.inr (.inl q)))))
  · refine .inr (.inr (.inr (.inr (.inr (.inr ⟨i, ?_, q⟩)))))
    by_cases e : i = id
    · rw [e]; exact hi
    · simpa [Sd.wr, Sd.op, e] using hi'
def KpPost (A : Pa) (d d' : Pd) (w : World) (e : Ending) (w' : World) : Prop := e = .returned (.int .i64 0) ∧ Lay w' A d' ∧ Fr (foot A d) w w'
theorem foot_g {A : Pa} {d : Pd} {id : Nat} (hi : (d.sd.B id).isSome) : foot A d (d.sd.g id) := .inr (.inr (.inr (.inr (.inr (.inr ⟨id, hi, rfl⟩)))))
theorem Lay.store {w w' : World} {A : Pa} {d : Pd} {sd : Sd} {S : Nat → Prop} (h : Lay w A d) (hf : Fr S w w') (hS : ∀ k, S k → d.sd.mine A.s A.m k) (hs : Sto w' A.s A.m sd) (hn : sd.n = d.sd.n) (hnf : sd.fails < 0) : Lay w' A { d with sd := sd } := by
  refine h.bmsd (f := d.blk) hf (fun q => h.mine_p (hS _ q)) (fun q => h.mine_fb (hS _ q)) (fun q => h.mine_sm (hS _ q)) ?_ hs hnf
  rw [hn]
  exact h.bls.fr hf (fun q => h.mine_bm (hS _ q))
set_option maxHeartbeats 1000000 in
set_option maxRecDepth 100000 in
theorem keep_has {w : World} {A : Pa} {d : Pd} (h : Lay w A d) (a b id : Nat) (g off cp : Nat) (l : List Nat) (hx : small (a, b)) (hn : d.blk (a, b) = some id) (hB : (d.sd.B id).isSome = true) (ho : d.sd.ops < 1000000)
    (hy : Byt w (some ⟨g, off, none⟩) d.sd.size cp l) (hg : ¬ foot A d g) :
    Calls Try.prog 70 #[.pointer (some ⟨A.p, 0, none⟩), .agg #[.int .i64 a, .int .i64 b], .slice (some ⟨g, off, none⟩) d.sd.size cp] w (KpPost A d { d with sd := d.sd.op.wr id l } w) := by
  have c4 : w.cell? ⟨A.p, 4, none⟩ = some (.map (some A.bm)) := h.blk.cell 4
  have hl : ∀ k, (Instr.lookup 99 (.map (some A.bm)) (.agg #[.int .i64 a, .int .i64 b]) true).run Try.prog ((w.alloc (Obj.cells #[.int .i64 a, .int .i64 b] 104)).drewN k) = .ok (.tuple #[.int .i64 id, .bool true]) ((w.alloc (Obj.cells #[.int .i64 a, .int .i64 b] 104)).drewN k) := fun k => by
    have := ((h.bls.alloc (Obj.cells #[.int .i64 a, .int .i64 b] 104)).drewN k).look Try.underlying99 hx true
    rw [hn] at this
    exact this
  have hlt := h.blk.lt
  have H := Lib.hid h
  have HBi := Lib.hid hB
  have HY := Lib.hid hy
  clear h hn hB hy
  go_enter Try.func70, Try.ntmps70
  go_wp2
  go_quiet (fail)
  clear hl c4
  have hF0 : Fr (fun _ => False) w ((w.alloc (Obj.cells #[.int .i64 a, .int .i64 b] 104)).drewN nq) := ((Fr.refl _ w).alloc _).drewN _
  have hL0 : Lay ((w.alloc (Obj.cells #[.int .i64 a, .int .i64 b] 104)).drewN nq) A d := (H.out.alloc _).drewN nq
  have hY0 := HY.out.fr hF0 (fun q => q)
  generalize (w.alloc (Obj.cells #[.int .i64 a, .int .i64 b] 104)).drewN nq = W at hF0 hL0 hY0 ⊢
  have c1 : W.cell? ⟨A.p, 1, none⟩ = some (.pointer (some ⟨A.s, 0, none⟩)) := hL0.blk.cell 1
  have HW := Lib.hid (Write_ok A.s A.m d.sd id (some ⟨g, off, none⟩) cp l W hL0.sto HBi.out hY0 ho (Sd.fl_no hL0.nof))
  have HF0 := Lib.hid hF0
  have HL0 := Lib.hid hL0
  clear hF0 hL0 hlt hY0
  go_wp2_with (first
    | (go_at_call 83
       refine HW.out.mono ?_
       rintro e w1 ⟨rfl, hs, hf⟩
       have hlay : Lay w1 A { d with sd := d.sd.op.wr id l } := HL0.out.store hf (fun k hk => by rcases hk with q | q; exact .inl q; exact .inr (.inr ⟨id, HBi.out, q.symm⟩)) hs rfl HL0.out.nof
       have HL1 := Lib.hid hlay
       have HF1 := Lib.hid hf
       clear hs hf hlay)
    | (go_at_call 67; refine (met_ok HL1.out).mono ?_; rintro e w2 ⟨rfl, h2, f2⟩; have HL2 := Lib.hid h2; have HF2 := Lib.hid f2; clear h2 f2))
  go_ret
  refine ⟨rfl, HL2.out, ((HF0.out.more (fun _ q => q.elim)).trans (HF1.out.more (fun k hk => ?_))).trans (HF2.out.more (fun k hk => .inl hk))⟩
  rcases hk with q | q
  · exact .inr (.inr (.inr (.inr (.inl q))))
  · rw [q]; exact foot_g HBi.out
def KnPost (A : Pa) (d : Pd) (x : Nat × Nat) (l : List Nat) (w : World) (e : Ending) (w' : World) : Prop :=
  ∃ L G : Nat, d.sd.Low L ∧ w.heap.size ≤ G ∧ e = .returned (.int .i64 0) ∧ Lay w' A { d with blk := upd d.blk x (some L), sd := (d.sd.op.al L G).op.wr L l } ∧ Fr (foot A d) w w'
set_option maxHeartbeats 2000000 in
set_option maxRecDepth 100000 in
theorem keep_new {w : World} {A : Pa} {d : Pd} (h : Lay w A d) (a b : Nat) (g off cp : Nat) (l : List Nat) (hx : small (a, b)) (hn : d.blk (a, b) = none) (hc : d.sd.n < d.sd.cap) (ho : d.sd.ops < 900000)
    (hy : Byt w (some ⟨g, off, none⟩) d.sd.size cp l) (hg : ¬ foot A d g) (hgl : g < w.heap.size) :
    Calls Try.prog 70 #[.pointer (some ⟨A.p, 0, none⟩), .agg #[.int .i64 a, .int .i64 b], .slice (some ⟨g, off, none⟩) d.sd.size cp] w (KnPost A d (a, b) l w) := by
  have c4 : w.cell? ⟨A.p, 4, none⟩ = some (.map (some A.bm)) := h.blk.cell 4
  have hl : ∀ k, (Instr.lookup 99 (.map (some A.bm)) (.agg #[.int .i64 a, .int .i64 b]) true).run Try.prog ((w.alloc (Obj.cells #[.int .i64 a, .int .i64 b] 104)).drewN k) = .ok (.tuple #[.int .i64 0, .bool false]) ((w.alloc (Obj.cells #[.int .i64 a, .int .i64 b] 104)).drewN k) := fun k => by
    have := ((h.bls.alloc (Obj.cells #[.int .i64 a, .int .i64 b] 104)).drewN k).look Try.underlying99 hx true
    rw [hn] at this
    exact this
  have hlt := h.blk.lt
  have H := Lib.hid h
  have HN := Lib.hid hn
  have HX := Lib.hid hx
  have HY := Lib.hid hy
  clear h hn hy hx
  go_enter Try.func70, Try.ntmps70
  go_wp2
  go_quiet (fail)
  clear hl c4
  have hF0 : Fr (fun _ => False) w ((w.alloc (Obj.cells #[.int .i64 a, .int .i64 b] 104)).drewN nq) := ((Fr.refl _ w).alloc _).drewN _
  have hL0 : Lay ((w.alloc (Obj.cells #[.int .i64 a, .int .i64 b] 104)).drewN nq) A d := (H.out.alloc _).drewN nq
  have hX0 : Blk ((w.alloc (Obj.cells #[.int .i64 a, .int .i64 b] 104)).drewN nq) w.heap.size 104 #[.int .i64 a, .int .i64 b] := (Blk.new w 104 _).drewN nq
  have hY0 := HY.out.fr hF0 (fun q => q)
  generalize (w.alloc (Obj.cells #[.int .i64 a, .int .i64 b] 104)).drewN nq = W at hF0 hL0 hY0 hX0 ⊢
  obtain ⟨bx, ebx⟩ : ∃ bx, bx = w.heap.size := ⟨_, rfl⟩
  rw [← ebx] at hX0 hgl ⊢
  have c1 : W.cell? ⟨A.p, 1, none⟩ = some (.pointer (some ⟨A.s, 0, none⟩)) := hL0.blk.cell 1
  have HA := Lib.hid (Alloc_ok A.s A.m d.sd W hL0.sto (by omega) (Sd.fl_no hL0.nof) hc)
  have HF0 := Lib.hid hF0
  have HL0 := Lib.hid hL0
  have HX0 := Lib.hid hX0
  have HY0 := Lib.hid hY0
  have HEB := Lib.hid ebx
  unfold AlPost at HA
  clear hF0 hL0 hlt hY0 hX0 ebx
  go_wp2_with fail
  refine HA.out.mono ?_
  rintro e w1 ⟨L, G, rfl, hL, hG, hs, hf⟩
  have HLo := Lib.hid hL
  have HG := Lib.hid hG
  have HS1 := Lib.hid hs
  have HF1 := Lib.hid hf
  clear hL hG hs hf
  have hlim : d.sd.n < maxLen := by have := HL0.out.sto.capm; unfold maxLen; omega
  have hsm1 : ¬ (A.bm = A.s ∨ A.bm = A.m) := by rintro (q | q); exact HL0.out.sbm q; exact HL0.out.ne3 q
  have hpm1 : ¬ (A.p = A.s ∨ A.p = A.m) := by rintro (q | q); exact HL0.out.ps q.symm; exact HL0.out.pm q.symm
  have hbx1 : ¬ (bx = A.s ∨ bx = A.m) := by
    have := H.out.sto.blk.lt
    have := H.out.sto.im.lt
    have := HEB.out
    rintro (q | q) <;> omega
  obtain ⟨w2, hrun, hpm, hturn⟩ := ((HL0.out.bls.fr HF1.out hsm1).drewN 1).store Try.underlying99 hlim HX.out L
  have hrun' : (Instr.mapUpdate 99 (.map (some A.bm)) (.agg #[.int .i64 a, .int .i64 b]) (.int .i64 L)).run Try.prog w1.drew = .ok () w2 := hrun
  have hb2 : PM w2 A.bm (d.sd.n + 1) (upd d.blk (a, b) (some L)) := by rw [HN.out] at hpm; exact hpm
  have hf2 : Fr (· = A.bm) w1 w2 := (Fr.refl _ w1).drew.trans (turned_fr hturn)
  have hS2 : Sto w2 A.s A.m (d.sd.op.al L G) := HS1.out.fr hf2 (fun k hk e => by
    rw [e] at hk
    rcases hk with q | q | ⟨i, hi, q⟩
    · exact HL0.out.sbm q
    · exact HL0.out.ne3 q
    · obtain ⟨l', hl'⟩ := Option.isSome_iff_exists.1 hi
      have hb1 : PM w1 A.bm d.sd.n d.blk := HL0.out.bls.fr HF1.out hsm1
      exact hb1.ne_ (HS1.out.cont i l' hl').2.2 q.symm)
  have hlay : Lay w2 A { d with blk := upd d.blk (a, b) (some L), sd := d.sd.op.al L G } :=
    HL0.out.bmsd (f := upd d.blk (a, b) (some L)) (sd := d.sd.op.al L G) (S := fun k => (k = A.s ∨ k = A.m) ∨ k = A.bm) ((HF1.out.more (fun k hk => .inl hk)).trans (hf2.more (fun k hk => .inr hk)))
      (by rintro (q | q); exact hpm1 q; exact HL0.out.pbm q.symm) (by rintro ((q | q) | q); exact HL0.out.fs q.symm; exact HL0.out.fm q.symm; exact HL0.out.fbm q.symm) (by rintro ((q | q) | q); exact HL0.out.ssm q; exact HL0.out.ne2 q; exact HL0.out.ne1 q) hb2 hS2 HL0.out.nof
  have c4 : w1.cell? ⟨A.p, 4, none⟩ = some (.map (some A.bm)) := (HL0.out.blk.fr HF1.out hpm1).cell 4
  have x0 : w1.cell? ⟨bx, 0, none⟩ = some (.int .i64 a) := (HX0.out.fr HF1.out hbx1).cell 0
  have x1 : w1.cell? ⟨bx, 1, none⟩ = some (.int .i64 b) := (HX0.out.fr HF1.out hbx1).cell 1
  have hBL : ((d.sd.op.al L G).B L).isSome = true := by simp [Sd.al]
  have hY2 : Byt w2 (some ⟨g, off, none⟩) d.sd.size cp l := (HY0.out.fr HF1.out (by rintro (q | q); exact hg (.inr (.inr (.inr (.inr (.inl q))))); exact hg (.inr (.inr (.inr (.inr (.inr (.inl q)))))))).fr hf2 (fun q => hg (.inr (.inr (.inr (.inl q)))))
  have HW := Lib.hid (Write_ok A.s A.m (d.sd.op.al L G) L (some ⟨g, off, none⟩) cp l w2 hS2 hBL hY2 (by show d.sd.ops + 1 < 1000000; omega) (Sd.fl_no HL0.out.nof))
  have c1' : w2.cell? ⟨A.p, 1, none⟩ = some (.pointer (some ⟨A.s, 0, none⟩)) := hlay.blk.cell 1
  have hgL : (d.sd.op.al L G).g L = G := by simp [Sd.al]
  rw [hgL] at HW
  have HL1 := Lib.hid hlay
  have HF2 := Lib.hid hf2
  have HBL := Lib.hid hBL
  have HGL := Lib.hid hgL
  clear hrun hpm hturn hb2 hf2 hS2 hlay hBL hY2 hlim hsm1 hpm1 hbx1 hgL c1 hgl
  go_wp2
  go_region
  all_goals
    clear hrun' c4 x0 x1
    go_wp2_with (first
      | (go_at_call 83
         refine HW.out.mono ?_
         rintro e w3 ⟨rfl, hs, hf⟩
         have hlay : Lay w3 A { d with blk := upd d.blk (a, b) (some L), sd := (d.sd.op.al L G).op.wr L l } := HL1.out.store hf (fun k hk => by rcases hk with q | q; exact .inl q; exact .inr (.inr ⟨L, HBL.out, by rw [q]; exact HGL.out⟩)) hs rfl HL0.out.nof
         have HL3 := Lib.hid hlay
         have HF3 := Lib.hid hf
         clear hs hf hlay)
      | (go_at_call 67; refine (met_ok HL3.out).mono ?_; rintro e w4 ⟨rfl, h4, f4⟩; have HL4 := Lib.hid h4; have HF4 := Lib.hid f4; clear h4 f4))
    go_ret
    have f01 : Fr (foot A d) w w2 := ((HF0.out.more (fun _ q => q.elim)).trans (HF1.out.more (fun k hk => by rcases hk with q | q; exact .inr (.inr (.inr (.inr (.inl q)))); exact .inr (.inr (.inr (.inr (.inr (.inl q)))))))).trans (HF2.out.more (fun k hk => .inr (.inr (.inr (.inl hk)))))
    have hGw : w.heap.size ≤ G := Nat.le_trans HF0.out.size HG.out
    have f03 : Fr (foot A d) w w3 := f01.trans_new HF3.out (fun k hk => by
      rcases hk with q | q
      · exact .inl (.inr (.inr (.inr (.inr (.inl q)))))
      · exact .inr (by omega))
    exact ⟨L, G, HLo.out, hGw, rfl, HL4.out, f03.trans (HF4.out.more (fun k hk => .inl hk))⟩
end Go.Proofs.Ytlnffcledpccjaa
/-
  A pager's frames written; what a pager holds (the pages' bytes), as a plain matter of numbers and lists.
-/
namespace Go.Proofs.Ytlnffcledpccjaa
open Go.RowKit
set_option linter.unusedVariables false
/-- a cell of frame i is written -/
theorem Frs.set_ {w : World} {A : Pa} {d d' : Pd} {i k : Nat} {v : Value} (h : Frs w A d) (hi : i < d.n) (hk : k < 6) (hn : d'.n = d.n) (h1 : frC d' i = (frC d i).set k v) (h2 : ∀ j, j ≠ i → frC d' j = frC d j) : Frs (w.setCell ⟨A.fb, i * 6 + k, none⟩ v) A d' := by
  obtain ⟨cur, hb, hc⟩ := h
  refine ⟨_, hb.set_ (i * 6 + k) v, fun j hj q u hu => ?_⟩
  rw [hn] at hj
  rw [Array.getElem?_setIfInBounds]
  have hq6 : q < 6 := by
    have := (List.getElem?_eq_some_iff.1 hu).1
    simpa [frC] using this
  by_cases e : j = i
  · subst e
    rw [h1] at hu
    by_cases eq : q = k
    · subst eq
      have hv : v = u := by
        rw [List.getElem?_set_self (by simpa [frC] using hq6)] at hu
        exact Option.some.inj hu
      subst hv
      obtain ⟨v0, hv0⟩ : ∃ v0, (frC d j)[q]? = some v0 := ⟨_, List.getElem?_eq_getElem (by simpa [frC] using hq6)⟩
      have hsz := (Array.getElem?_eq_some_iff.1 (hc j hj q v0 hv0)).1
      rw [if_pos rfl, if_pos hsz]
    · rw [List.getElem?_set_ne (fun e => eq e.symm)] at hu
      rw [if_neg (by omega)]
      exact hc j hj q u hu
  · rw [h2 j e] at hu
    rw [if_neg (by omega)]
    exact hc j hj q u hu
def setB (f : Nat → Bool) (i : Nat) (b : Bool) (j : Nat) : Bool := if j = i then b else f j
section
variable {w w' : World} {A : Pa} {d : Pd}
theorem Lay.frame {S : Nat → Prop} {d' : Pd} (h : Lay w A d) (hf : Fr (· = A.fb) w w') (hfr : Frs w' A d') (h1 : d'.n = d.n) (h2 : d'.hand = d.hand) (h3 : d'.st = d.st) (h4 : d'.blk = d.blk) (h5 : d'.sd = d.sd) : Lay w' A d' := by
  obtain ⟨q, hq, hs⟩ := h.sts
  refine ⟨?_, hfr, ⟨q, hq, ?_⟩, ?_, ?_, h.ne1, h.ne2, h.ne3, by rw [h1]; exact h.n1, by rw [h1]; exact h.n2, by rw [h1]; exact h.cap1, h.cap2, by rw [h1, h2]; exact h.hd, by rw [h5]; exact h.nof⟩
  · have : pgC A d' = pgC A d := by unfold pgC; rw [h1, h2]
    rw [this]; exact h.blk.fr hf (Ne.symm h.pfb)
  · rw [h3]; exact hs.fr hf h.fsm
  · rw [h4, h5]; exact h.bls.fr hf h.fbm
  · rw [h5]; exact h.sto.fr hf (fun k hk e => h.mine_fb (e ▸ hk))
theorem Lay.setch (h : Lay w A d) {i : Nat} (hi : i < d.n) (b : Bool) : Lay (w.setCell ⟨A.fb, i * 6 + 5, none⟩ (.bool b)) A { d with ch := setB d.ch i b } :=
  h.frame (S := fun _ => True) ((Fr.refl (· = A.fb) w).set_ (p := ⟨A.fb, i * 6 + 5, none⟩) rfl _) (h.frs.set_ hi (by omega) rfl (by simp [frC, setB]) (fun j hj => by simp [frC, setB, hj])) rfl rfl rfl rfl rfl
theorem Lay.setth (h : Lay w A d) {i : Nat} (hi : i < d.n) (b : Bool) : Lay (w.setCell ⟨A.fb, i * 6 + 4, none⟩ (.bool b)) A { d with th := setB d.th i b } :=
  h.frame (S := fun _ => True) ((Fr.refl (· = A.fb) w).set_ (p := ⟨A.fb, i * 6 + 4, none⟩) rfl _) (h.frs.set_ hi (by omega) rfl (by simp [frC, setB]) (fun j hj => by simp [frC, setB, hj])) rfl rfl rfl rfl rfl
theorem Lay.sethand (h : Lay w A d) {j : Nat} (hj : j < d.n) : Lay (w.setCell ⟨A.p, 5, none⟩ (.int .i64 j)) A { d with hand := j } := by
  have hf : Fr (· = A.p) w (w.setCell ⟨A.p, 5, none⟩ (.int .i64 j)) := (Fr.refl (· = A.p) w).set_ (p := ⟨A.p, 5, none⟩) rfl _
  obtain ⟨q, hq, hs⟩ := h.sts
  exact ⟨h.blk.set_ 5 _, h.frs.same (hf.block _ h.frs.lt h.pfb), ⟨q, hq, hs.fr hf h.psm⟩, h.bls.fr hf h.pbm, h.sto.fr hf (fun k hk e => h.mine_p (e ▸ hk)), h.ne1, h.ne2, h.ne3, h.n1, h.n2, h.cap1, h.cap2, hj, h.nof⟩
end
/-- what a pager holds: C: each page's bytes; W: pages among which those are that were written; E: pages of which nothing is said -/
structure PI (d : Pd) (mem : List Nat) (C : Nat × Nat → List Nat) (W : List (Nat × Nat)) (E : Nat × Nat → Prop) : Prop where
  rin : ∀ i, i < d.n → d.room i + d.sd.size ≤ mem.length
  rap : ∀ i j, i < d.n → j < d.n → i ≠ j → d.room i + d.sd.size ≤ d.room j ∨ d.room j + d.sd.size ≤ d.room i
  st : ∀ x i, d.st x = some i ↔ i < d.n ∧ d.tk i = true ∧ d.pg i = x
  sm : ∀ i, i < d.n → small (d.pg i)
  len : ∀ x, (C x).length = d.sd.size ∧ ∀ y ∈ C x, y < 256
  cont : ∀ i, i < d.n → d.tk i = true → ¬ E (d.pg i) → (mem.drop (d.room i)).take d.sd.size = C (d.pg i)
  bin : ∀ x id, d.blk x = some id → (d.sd.B id).isSome = true
  inj : ∀ x y id, d.blk x = some id → d.blk y = some id → x = y
  cb : ∀ x id, ¬ E x → d.st x = none → d.blk x = some id → d.sd.B id = some (C x) ∧ C x ≠ zs d.sd.size
  cz : ∀ x, ¬ E x → d.st x = none → d.blk x = none → C x = zs d.sd.size
  cl : ∀ i, i < d.n → d.tk i = true → ¬ E (d.pg i) → d.ch i = false → (∀ id, d.blk (d.pg i) = some id → d.sd.B id = some (C (d.pg i))) ∧ (d.blk (d.pg i) = none → C (d.pg i) = zs d.sd.size)
  wb : ∀ x, d.blk x ≠ none → x ∈ W
  wc : ∀ i, i < d.n → d.tk i = true → d.ch i = true → d.pg i ∈ W
  un : ∀ i, i < d.n → d.tk i = false → d.ch i = false
theorem all_zs {l : List Nat} {n : Nat} (hl : l.length = n) : l.all (· == 0) = decide (l = zs n) := by
  rw [Bool.eq_iff_iff, decide_eq_true_eq, List.all_eq_true]
  constructor
  · intro h
    unfold zs
    rw [← hl]
    exact List.eq_replicate_of_mem (fun x hx => by simpa using h x hx)
  · rintro rfl x hx
    have := List.eq_of_mem_replicate hx
    simp [this]
section
variable {d : Pd} {mem : List Nat} {C : Nat × Nat → List Nat} {W : List (Nat × Nat)} {E : Nat × Nat → Prop}
theorem PI.stand (h : PI d mem C W E) {i : Nat} (hi : i < d.n) (ht : d.tk i = true) : d.st (d.pg i) = some i := (h.st _ i).2 ⟨hi, ht, rfl⟩
/-- a block is freed, of a page that stands, all of whose bytes are 0 -/
theorem PI.fre (h : PI d mem C W E) {i id : Nat} (hi : i < d.n) (ht : d.tk i = true) (hid : d.blk (d.pg i) = some id) (hz : ¬ E (d.pg i) → C (d.pg i) = zs d.sd.size) : PI (d.fre (d.pg i) id) mem C W E := by
  have hB : ∀ y id', y ≠ d.pg i → d.blk y = some id' → (d.sd.op.fr id).B id' = d.sd.B id' := fun y id' hy hq => by
    have : id' ≠ id := fun e => hy (h.inj y (d.pg i) id (e ▸ hq) hid)
    simp [Sd.fr, Sd.op, this]
  have hup : ∀ y, y ≠ d.pg i → (d.fre (d.pg i) id).blk y = d.blk y := fun y hy => upd_other _ _ _ hy
  have hsame : (d.fre (d.pg i) id).blk (d.pg i) = none := upd_same _ _ _
  have hne : ∀ y, d.st y = none → y ≠ d.pg i := fun y hy e => by rw [e, h.stand hi ht] at hy; cases hy
  refine ⟨h.rin, h.rap, h.st, h.sm, h.len, h.cont, fun x id' hx => ?_, fun x y id' hx hy => ?_, fun x id' hE hs hx => ?_, fun x hE hs hx => ?_, fun j hj htj hE hc => ?_, fun x hx => ?_, h.wc, h.un⟩
  · by_cases e : x = d.pg i
    · rw [e, hsame] at hx; cases hx
    · rw [hup x e] at hx
      show ((d.sd.op.fr id).B id').isSome = true
      rw [hB x id' e hx]; exact h.bin x id' hx
  · by_cases e : x = d.pg i
    · rw [e, hsame] at hx; cases hx
    · by_cases e' : y = d.pg i
      · rw [e', hsame] at hy; cases hy
      · rw [hup x e] at hx
        rw [hup y e'] at hy
        exact h.inj x y id' hx hy
  · have e := hne x hs
    rw [hup x e] at hx
    have := h.cb x id' hE hs hx
    exact ⟨(hB x id' e hx).trans this.1, this.2⟩
  · have e := hne x hs
    rw [hup x e] at hx
    exact h.cz x hE hs hx
  · show (∀ id', (d.fre (d.pg i) id).blk (d.pg j) = some id' → (d.sd.op.fr id).B id' = some (C (d.pg j))) ∧ _
    by_cases e : d.pg j = d.pg i
    · refine ⟨fun id' hq => ?_, fun _ => ?_⟩
      · rw [e, hsame] at hq; cases hq
      · show C (d.pg j) = _
        rw [e]; exact hz (e ▸ hE)
    · refine ⟨fun id' hq => ?_, fun hq => ?_⟩
      · rw [hup _ e] at hq
        rw [hB _ id' e hq]
        exact (h.cl j hj htj hE hc).1 id' hq
      · exact (h.cl j hj htj hE hc).2 ((hup _ e).symm.trans hq)
  · by_cases e : x = d.pg i
    · rw [e, hsame] at hx; exact absurd rfl hx
    · rw [hup x e] at hx; exact h.wb x hx
/-- a page's frame is like its block -/
theorem PI.clean (h : PI d mem C W E) {i : Nat} (hi : i < d.n) (ht : d.tk i = true) (hc : ¬ E (d.pg i) → (∀ id, d.blk (d.pg i) = some id → d.sd.B id = some (C (d.pg i))) ∧ (d.blk (d.pg i) = none → C (d.pg i) = zs d.sd.size)) : PI { d with ch := setB d.ch i false } mem C W E := by
  refine ⟨h.rin, h.rap, h.st, h.sm, h.len, h.cont, h.bin, h.inj, h.cb, h.cz, fun j hj htj hE hcj => ?_, h.wb, fun j hj htj hcj => ?_, fun j hj htj => ?_⟩
  · by_cases e : j = i
    · subst e; exact hc hE
    · simp only [setB, if_neg e] at hcj
      exact h.cl j hj htj hE hcj
  · by_cases e : j = i
    · simp [setB, e] at hcj
    · simp only [setB, if_neg e] at hcj
      exact h.wc j hj htj hcj
  · by_cases e : j = i
    · simp [setB, e]
    · simp only [setB, if_neg e]
      exact h.un j hj htj
/-- a standing page's bytes are written to its block -/
theorem PI.wr (h : PI d mem C W E) {i id : Nat} {l : List Nat} (hi : i < d.n) (ht : d.tk i = true) (hid : d.blk (d.pg i) = some id) (hl : ¬ E (d.pg i) → l = C (d.pg i)) : PI { d with sd := d.sd.op.wr id l } mem C W E := by
  have hB : ∀ y id', y ≠ d.pg i → d.blk y = some id' → (d.sd.op.wr id l).B id' = d.sd.B id' := fun y id' hy hq => by
    have : id' ≠ id := fun e => hy (h.inj y (d.pg i) id (e ▸ hq) hid)
    simp [Sd.wr, Sd.op, this]
  have hBi : (d.sd.op.wr id l).B id = some l := by simp [Sd.wr]
  have hne : ∀ y, d.st y = none → y ≠ d.pg i := fun y hy e => by rw [e, h.stand hi ht] at hy; cases hy
  refine ⟨h.rin, h.rap, h.st, h.sm, h.len, h.cont, fun x id' hx => ?_, h.inj, fun x id' hE hs hx => ?_, h.cz, fun j hj htj hE hc => ?_, h.wb, h.wc, h.un⟩
  · show ((d.sd.op.wr id l).B id').isSome = true
    by_cases e : id' = id
    · rw [e, hBi]; rfl
    · have := h.bin x id' hx
      simp only [Sd.wr, if_neg e]; exact this
  · have e := hne x hs
    have := h.cb x id' hE hs hx
    exact ⟨(hB x id' e hx).trans this.1, this.2⟩
  · show (∀ id', d.blk (d.pg j) = some id' → (d.sd.op.wr id l).B id' = some (C (d.pg j))) ∧ _
    refine ⟨fun id' hq => ?_, fun hq => (h.cl j hj htj hE hc).2 hq⟩
    by_cases e : d.pg j = d.pg i
    · have : id' = id := by rw [e, hid] at hq; exact (Option.some.inj hq).symm
      rw [this, hBi, hl (e ▸ hE), e]
    · rw [hB _ id' e hq]
      exact (h.cl j hj htj hE hc).1 id' hq
/-- a standing page that had no block has one -/
theorem PI.new (h : PI d mem C W E) {i L G : Nat} {l : List Nat} (hi : i < d.n) (ht : d.tk i = true) (hn : d.blk (d.pg i) = none) (hL : d.sd.Low L) (hw : d.pg i ∈ W) (hl : ¬ E (d.pg i) → l = C (d.pg i)) :
    PI { d with blk := upd d.blk (d.pg i) (some L), sd := (d.sd.op.al L G).op.wr L l } mem C W E := by
  have hfresh : ∀ y id', d.blk y = some id' → id' ≠ L := fun y id' hq e => by
    have := h.bin y id' hq
    rw [e, hL.1] at this; cases this
  have hB : ∀ id', id' ≠ L → ((d.sd.op.al L G).op.wr L l).B id' = d.sd.B id' := fun id' hq => by simp [Sd.wr, Sd.op, Sd.al, hq]
  have hBi : ((d.sd.op.al L G).op.wr L l).B L = some l := by simp [Sd.wr]
  have hne : ∀ y, d.st y = none → y ≠ d.pg i := fun y hy e => by rw [e, h.stand hi ht] at hy; cases hy
  have hup : ∀ y, y ≠ d.pg i → upd d.blk (d.pg i) (some L) y = d.blk y := fun y hy => upd_other _ _ _ hy
  have hsame : upd d.blk (d.pg i) (some L) (d.pg i) = some L := upd_same _ _ _
  refine ⟨h.rin, h.rap, h.st, h.sm, h.len, h.cont, fun x id' hx => ?_, fun x y id' hx hy => ?_, fun x id' hE hs hx => ?_, fun x hE hs hx => ?_, fun j hj htj hE hc => ?_, fun x hx => ?_, h.wc, h.un⟩
  · show (((d.sd.op.al L G).op.wr L l).B id').isSome = true
    by_cases e : id' = L
    · rw [e, hBi]; rfl
    · by_cases e' : x = d.pg i
      · rw [e'] at hx; exact absurd (Option.some.inj (hsame.symm.trans hx)).symm e
      · rw [hB id' e]; exact h.bin x id' ((hup x e').symm.trans hx)
  · by_cases e : x = d.pg i <;> by_cases e' : y = d.pg i
    · rw [e, e']
    · subst e
      have h1 : L = id' := Option.some.inj (hsame.symm.trans hx)
      exact absurd h1.symm (hfresh y id' ((hup y e').symm.trans hy))
    · subst e'
      have h1 : L = id' := Option.some.inj (hsame.symm.trans hy)
      exact absurd h1.symm (hfresh x id' ((hup x e).symm.trans hx))
    · exact h.inj x y id' ((hup x e).symm.trans hx) ((hup y e').symm.trans hy)
  · have e := hne x hs
    have hx' : d.blk x = some id' := (hup x e).symm.trans hx
    have := h.cb x id' hE hs hx'
    exact ⟨(hB id' (hfresh x id' hx')).trans this.1, this.2⟩
  · have e := hne x hs
    exact h.cz x hE hs ((hup x e).symm.trans hx)
  · show (∀ id', upd d.blk (d.pg i) (some L) (d.pg j) = some id' → ((d.sd.op.al L G).op.wr L l).B id' = some (C (d.pg j))) ∧ (upd d.blk (d.pg i) (some L) (d.pg j) = none → _)
    by_cases e : d.pg j = d.pg i
    · refine ⟨fun id' hq => ?_, fun hq => ?_⟩
      · rw [e] at hq
        have h1 : L = id' := Option.some.inj (hsame.symm.trans hq)
        rw [← h1, hBi, hl (e ▸ hE), e]
      · rw [e, hsame] at hq; cases hq
    · refine ⟨fun id' hq => ?_, fun hq => (h.cl j hj htj hE hc).2 ((hup _ e).symm.trans hq)⟩
      have hq' : d.blk (d.pg j) = some id' := (hup _ e).symm.trans hq
      rw [hB id' (hfresh _ id' hq')]
      exact (h.cl j hj htj hE hc).1 id' hq'
  · by_cases e : x = d.pg i
    · rw [e]; exact hw
    · exact h.wb x (by rw [← hup x e]; exact hx)
end
end Go.Proofs.Ytlnffcledpccjaa
