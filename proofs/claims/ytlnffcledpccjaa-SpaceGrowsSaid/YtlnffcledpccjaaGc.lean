/-
  pager.Pager.free, load, keep.
-/
import Derived.Test.YtlnffcledpccjaaGb
namespace Go.Proofs.Ytlnffcledpccjaa
open Go.RowKit
set_option linter.unusedVariables false
def Pd.fre (d : Pd) (x : Nat × Nat) (id : Nat) : Pd := { d with blk := upd d.blk x none, sd := d.sd.op.fr id }
set_option maxHeartbeats 1000000 in
set_option maxRecDepth 100000 in
theorem free_no {w : World} {A : Pa} {d : Pd} (h : Lay w A d) (a b : Nat) (hx : small (a, b)) (hn : d.blk (a, b) = none) :
    Calls Try.prog 45 #[.pointer (some ⟨A.p, 0, none⟩), .agg #[.int .i64 a, .int .i64 b]] w fun e w' => e = .returned (.int .i64 0) ∧ Fr (fun _ => False) w w' := by
  have c4 : w.cell? ⟨A.p, 4, none⟩ = some (.map (some A.bm)) := h.blk.cell 4
  have hl : ∀ k, (Instr.lookup 99 (.map (some A.bm)) (.agg #[.int .i64 a, .int .i64 b]) true).run Try.prog ((w.alloc (Obj.cells #[.int .i64 a, .int .i64 b] 104)).drewN k) = .ok (.tuple #[.int .i64 0, .bool false]) ((w.alloc (Obj.cells #[.int .i64 a, .int .i64 b] 104)).drewN k) := fun k => by
    have := ((h.bls.alloc (Obj.cells #[.int .i64 a, .int .i64 b] 104)).drewN k).look Try.underlying99 hx true
    rw [hn] at this
    exact this
  have hlt := h.blk.lt
  clear h hn
  go_enter Try.func45, Try.ntmps45
  go_wp2
  go_quiet (fail)
  go_wp2
  go_ret
  exact ⟨rfl, ((Fr.refl _ w).alloc _).drewN _⟩
/-- the store and the map turned together -/
theorem Lay.bmsd {w w' : World} {A : Pa} {d : Pd} {f : Nat × Nat → Option Nat} {sd : Sd} {S : Nat → Prop} (h : Lay w A d) (hf : Fr S w w') (hS1 : ¬ S A.p) (hS2 : ¬ S A.fb) (hS3 : ¬ S A.sm) (hb : PM w' A.bm sd.n f) (hs : Sto w' A.s A.m sd) (hn : sd.fails < 0) :
    Lay w' A { d with blk := f, sd := sd } := by
  obtain ⟨q, hq, hst⟩ := h.sts
  exact ⟨h.blk.fr hf hS1, h.frs.same (hf.block _ h.frs.lt hS2), ⟨q, hq, hst.fr hf hS3⟩, hb, hs, h.ne1, h.ne2, h.ne3, h.n1, h.n2, h.cap1, h.cap2, h.hd, hn⟩
def frS (A : Pa) (k : Nat) : Prop := k = A.p ∨ k = A.bm ∨ k = A.s ∨ k = A.m
set_option maxHeartbeats 2000000 in
set_option maxRecDepth 100000 in
theorem free_yes {w : World} {A : Pa} {d : Pd} (h : Lay w A d) (a b id : Nat) (hx : small (a, b)) (hn : d.blk (a, b) = some id) (hB : (d.sd.B id).isSome = true) (ho : d.sd.ops < 1000000) :
    Calls Try.prog 45 #[.pointer (some ⟨A.p, 0, none⟩), .agg #[.int .i64 a, .int .i64 b]] w fun e w' => e = .returned (.int .i64 0) ∧ Lay w' A (d.fre (a, b) id) ∧ Fr (frS A) w w' := by
  have c4 : w.cell? ⟨A.p, 4, none⟩ = some (.map (some A.bm)) := h.blk.cell 4
  have c1 : w.cell? ⟨A.p, 1, none⟩ = some (.pointer (some ⟨A.s, 0, none⟩)) := h.blk.cell 1
  have hl : ∀ k, (Instr.lookup 99 (.map (some A.bm)) (.agg #[.int .i64 a, .int .i64 b]) true).run Try.prog ((w.alloc (Obj.cells #[.int .i64 a, .int .i64 b] 104)).drewN k) = .ok (.tuple #[.int .i64 id, .bool true]) ((w.alloc (Obj.cells #[.int .i64 a, .int .i64 b] 104)).drewN k) := fun k => by
    have := ((h.bls.alloc (Obj.cells #[.int .i64 a, .int .i64 b] 104)).drewN k).look Try.underlying99 hx true
    rw [hn] at this
    exact this
  have hlt := h.blk.lt
  have H := Lib.hid h
  have HN := Lib.hid hn
  have HBi := Lib.hid hB
  have HX := Lib.hid hx
  clear h hn hB hx
  go_enter Try.func45, Try.ntmps45
  go_wp2
  go_quiet (fail)
  clear hl c1 c4
  have hF0 : Fr (fun _ => False) w ((w.alloc (Obj.cells #[.int .i64 a, .int .i64 b] 104)).drewN nq) := ((Fr.refl _ w).alloc _).drewN _
  have hX0 : Blk ((w.alloc (Obj.cells #[.int .i64 a, .int .i64 b] 104)).drewN nq) w.heap.size 104 #[.int .i64 a, .int .i64 b] := (Blk.new w 104 _).drewN nq
  have hL0 : Lay ((w.alloc (Obj.cells #[.int .i64 a, .int .i64 b] 104)).drewN nq) A d := (H.out.alloc _).drewN nq
  generalize (w.alloc (Obj.cells #[.int .i64 a, .int .i64 b] 104)).drewN nq = W at hF0 hX0 hL0 ⊢
  obtain ⟨w2, hrun, hpm, hturn⟩ := (hL0.bls.drewN 1).drop Try.underlying99 HX.out 0
  have c4 : W.cell? ⟨A.p, 4, none⟩ = some (.map (some A.bm)) := hL0.blk.cell 4
  have x0 : W.cell? ⟨w.heap.size, 0, none⟩ = some (.int .i64 a) := hX0.cell 0
  have x1 : W.cell? ⟨w.heap.size, 1, none⟩ = some (.int .i64 b) := hX0.cell 1
  have hrun' : (Builtin.delete_ #[99, 104] 0 #[.map (some A.bm), .agg #[.int .i64 a, .int .i64 b]]).run Try.prog W.drew = .ok (.tuple #[]) w2 := hrun
  have hf2 : Fr (· = A.bm) W w2 := (Fr.refl _ W).drew.trans (turned_fr hturn)
  have hb2 : PM w2 A.bm (d.sd.n - 1) (upd d.blk (a, b) none) := by rw [HN.out] at hpm; exact hpm
  have hS2 : Sto w2 A.s A.m d.sd := hL0.sto.fr hf2 (fun k hk e => hL0.mine_bm (e ▸ hk))
  have HS2 := Lib.hid hS2
  have HB2 := Lib.hid hb2
  have HF2 := Lib.hid hf2
  have HF0 := Lib.hid hF0
  have HL0 := Lib.hid hL0
  have c1' : w2.cell? ⟨A.p, 1, none⟩ = some (.pointer (some ⟨A.s, 0, none⟩)) := (hL0.blk.fr hf2 (Ne.symm hL0.pbm)).cell 1
  clear hrun hpm hturn hf2 hb2 hS2 hF0 hX0 hL0 hlt H
  go_wp2
  go_region
  all_goals
    clear hrun' c4 x0 x1
    go_wp2_with (first
      | (go_at_call 68
         refine (Free_ok A.s A.m d.sd id _ HS2.out HBi.out ho (Sd.fl_no HL0.out.nof)).mono ?_
         rintro e w3 ⟨rfl, h3, f3⟩
         have hlay : Lay w3 A (d.fre (a, b) id) := by
           have hf : Fr (frS A) W w3 := (HF2.out.more (fun k hk => .inr (.inl hk))).trans (f3.more (fun k hk => by rcases hk with q | q; exact .inr (.inr (.inl q)); exact .inr (.inr (.inr q))))
           refine HL0.out.bmsd (f := upd d.blk (a, b) none) (sd := d.sd.op.fr id) (S := fun k => k = A.bm ∨ k = A.s ∨ k = A.m) ((HF2.out.more (fun k hk => .inl hk)).trans (f3.more (fun k hk => .inr hk))) ?_ ?_ ?_ (HB2.out.fr f3 ?_) h3 HL0.out.nof
           · rintro (q | q | q)
             · exact HL0.out.pbm q.symm
             · exact HL0.out.ps q.symm
             · exact HL0.out.pm q.symm
           · rintro (q | q | q)
             · exact HL0.out.fbm q.symm
             · exact HL0.out.fs q.symm
             · exact HL0.out.fm q.symm
           · rintro (q | q | q)
             · exact HL0.out.ne1 q
             · exact HL0.out.ssm q
             · exact HL0.out.ne2 q
           · rintro (q | q)
             · exact HL0.out.sbm q
             · exact HL0.out.ne3 q
         have HL3 := Lib.hid hlay
         have HF3 := Lib.hid f3
         clear h3 f3 hlay)
      | (go_at_call 67; refine (met_ok HL3.out).mono ?_; rintro e w4 ⟨rfl, h4, f4⟩; have HL4 := Lib.hid h4; have HF4 := Lib.hid f4; clear h4 f4))
    go_ret
    refine ⟨rfl, HL4.out, ?_⟩
    exact (((HF0.out.more (fun _ q => q.elim)).trans (HF2.out.more (fun k hk => .inr (.inl hk)))).trans (HF3.out.more (fun k hk => by rcases hk with q | q; exact .inr (.inr (.inl q)); exact .inr (.inr (.inr q))))).trans (HF4.out.more (fun k hk => .inl hk))
end Go.Proofs.Ytlnffcledpccjaa
