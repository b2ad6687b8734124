/-
  pager.Pager.load, keep.
-/
import Derived.Test.YtlnffcledpccjaaGc
namespace Go.Proofs.Ytlnffcledpccjaa
open Go.RowKit
set_option linter.unusedVariables false
def LdPost (A : Pa) (d d' : Pd) (l : List Nat) (w : World) (e : Ending) (w' : World) : Prop :=
  ∃ g : Nat, e = .returned (.tuple #[.slice (some ⟨g, 0, none⟩) d.sd.size d.sd.size, .int .i64 0]) ∧ w.heap.size ≤ g ∧ Byt w' (some ⟨g, 0, none⟩) d.sd.size d.sd.size l ∧ Lay w' A d' ∧ Fr (foot A d) w w'
set_option maxHeartbeats 1000000 in
set_option maxRecDepth 100000 in
theorem load_none {w : World} {A : Pa} {d : Pd} (h : Lay w A d) (a b : Nat) (hx : small (a, b)) (hn : d.blk (a, b) = none) :
    Calls Try.prog 87 #[.pointer (some ⟨A.p, 0, none⟩), .agg #[.int .i64 a, .int .i64 b]] w (LdPost A d d (zs d.sd.size) w) := by
  obtain ⟨i0, hi, hz0, hz1, hz2⟩ := info_parts info5
  have c4 : w.cell? ⟨A.p, 4, none⟩ = some (.map (some A.bm)) := h.blk.cell 4
  have hl : ∀ k, (Instr.lookup 99 (.map (some A.bm)) (.agg #[.int .i64 a, .int .i64 b]) true).run Try.prog ((w.alloc (Obj.cells #[.int .i64 a, .int .i64 b] 104)).drewN k) = .ok (.tuple #[.int .i64 0, .bool false]) ((w.alloc (Obj.cells #[.int .i64 a, .int .i64 b] 104)).drewN k) := fun k => by
    have := ((h.bls.alloc (Obj.cells #[.int .i64 a, .int .i64 b] 104)).drewN k).look Try.underlying99 hx true
    rw [hn] at this
    exact this
  have hlt := h.blk.lt
  have hs1 := h.sto.lo
  have hs2 := h.sto.hi
  have H := Lib.hid h
  clear h hn
  go_enter Try.func87, Try.ntmps87
  go_wp2
  go_quiet (fail)
  clear hl c4
  have hF0 : Fr (fun _ => False) w ((w.alloc (Obj.cells #[.int .i64 a, .int .i64 b] 104)).drewN nq) := ((Fr.refl _ w).alloc _).drewN _
  have hL0 : Lay ((w.alloc (Obj.cells #[.int .i64 a, .int .i64 b] 104)).drewN nq) A d := (H.out.alloc _).drewN nq
  generalize (w.alloc (Obj.cells #[.int .i64 a, .int .i64 b] 104)).drewN nq = W at hF0 hL0 ⊢
  have HS := Lib.hid (PSize_ok hL0)
  have HF0 := Lib.hid hF0
  have HL0 := Lib.hid hL0
  clear hF0 hL0 hlt
  go_wp2_with (first
    | (go_at_call 54; refine HS.out.mono ?_; rintro e w1 ⟨rfl, rfl⟩)
    | (at_make
       refine wpList_make_lc _ rfl (.tmp 22) (.tmp 22) 34 rfl 5 i0 _ Try.underlying34 hi hz0 hz1 .i64 .i64 _ _ d.sd.size d.sd.size rfl rfl rfl rfl (Nat.le_refl _) (by rw [hz2]; omega) (by unfold maxLen; omega) ?_
       intro w2 hg2 hbel2
       have HG2 := Lib.hid hg2.out
       have HB2 := Lib.hid hbel2
       clear hg2 hbel2))
  go_ret2
  have hb : Blk w2 W.heap.size 5 ((zs d.sd.size).map U8).toArray := by
    have := HG2.out
    rw [made_zs] at this
    exact this
  refine ⟨W.heap.size, rfl, HF0.out.size, byt_of_blk hb (by simp [zs]) (fun x hx => by have := List.eq_of_mem_replicate hx; omega) (by unfold maxLen; omega), HL0.out.below HB2.out, (HF0.out.more (fun _ q => q.elim)).trans (Fr.of_below HB2.out)⟩
set_option maxHeartbeats 1000000 in
set_option maxRecDepth 100000 in
theorem load_some {w : World} {A : Pa} {d : Pd} (h : Lay w A d) (a b id : Nat) (l : List Nat) (hx : small (a, b)) (hn : d.blk (a, b) = some id) (hB : d.sd.B id = some l) (ho : d.sd.ops < 1000000) :
    Calls Try.prog 87 #[.pointer (some ⟨A.p, 0, none⟩), .agg #[.int .i64 a, .int .i64 b]] w (LdPost A d { d with sd := d.sd.op } l w) := by
  have c4 : w.cell? ⟨A.p, 4, none⟩ = some (.map (some A.bm)) := h.blk.cell 4
  have hl : ∀ k, (Instr.lookup 99 (.map (some A.bm)) (.agg #[.int .i64 a, .int .i64 b]) true).run Try.prog ((w.alloc (Obj.cells #[.int .i64 a, .int .i64 b] 104)).drewN k) = .ok (.tuple #[.int .i64 id, .bool true]) ((w.alloc (Obj.cells #[.int .i64 a, .int .i64 b] 104)).drewN k) := fun k => by
    have := ((h.bls.alloc (Obj.cells #[.int .i64 a, .int .i64 b] 104)).drewN k).look Try.underlying99 hx true
    rw [hn] at this
    exact this
  have hlt := h.blk.lt
  have H := Lib.hid h
  have HBi := Lib.hid hB
  clear h hn hB
  go_enter Try.func87, Try.ntmps87
  go_wp2
  go_quiet (fail)
  clear hl c4
  have hF0 : Fr (fun _ => False) w ((w.alloc (Obj.cells #[.int .i64 a, .int .i64 b] 104)).drewN nq) := ((Fr.refl _ w).alloc _).drewN _
  have hL0 : Lay ((w.alloc (Obj.cells #[.int .i64 a, .int .i64 b] 104)).drewN nq) A d := (H.out.alloc _).drewN nq
  generalize (w.alloc (Obj.cells #[.int .i64 a, .int .i64 b] 104)).drewN nq = W at hF0 hL0 ⊢
  have c1 : W.cell? ⟨A.p, 1, none⟩ = some (.pointer (some ⟨A.s, 0, none⟩)) := hL0.blk.cell 1
  have HR := Lib.hid (Read_ok A.s A.m d.sd id l W hL0.sto HBi.out ho (Sd.fl_no hL0.nof))
  have HF0 := Lib.hid hF0
  have HL0 := Lib.hid hL0
  unfold RePost at HR
  clear hF0 hL0 hlt
  go_wp2_with (first
    | (go_at_call 104
       refine HR.out.mono ?_
       rintro e w1 ⟨g, rfl, hg, hb, _, hs, hf⟩
       have hlay : Lay w1 A { d with sd := d.sd.op } := HL0.out.bmsd (f := d.blk) hf (Ne.symm HL0.out.ps) (Ne.symm HL0.out.fs) HL0.out.ssm (HL0.out.bls.fr hf HL0.out.sbm) hs HL0.out.nof
       have HG := Lib.hid hg
       have HY := Lib.hid hb
       have HL1 := Lib.hid hlay
       have HF1 := Lib.hid hf
       clear hg hb hs hf hlay)
    | (go_at_call 67; refine (met_ok HL1.out).mono ?_; rintro e w2 ⟨rfl, h2, f2⟩; have HL2 := Lib.hid h2; have HF2 := Lib.hid f2; clear h2 f2))
  go_ret2
  have hgp : g ≠ A.p := by have := HL0.out.blk.lt; have := HG.out; omega
  refine ⟨g, rfl, Nat.le_trans HF0.out.size HG.out, HY.out.fr HF2.out hgp, HL2.out, ((HF0.out.more (fun _ q => q.elim)).trans (HF1.out.more (fun k hk => .inr (.inr (.inr (.inr (.inl hk))))))).trans (HF2.out.more (fun k hk => .inl hk))⟩
theorem Fr.al {S T : Nat → Prop} {w w' : World} (h : Fr S w w') (hS : ∀ k, S k → T k) : Fr T w w' := h.more hS
theorem foot_op (A : Pa) (d : Pd) : foot A { d with sd := d.sd.op } = foot A d := rfl
/-- what belongs to the pager behind a store's write -/
theorem foot_wr {A : Pa} {d : Pd} {id : Nat} {l : List Nat} (hi : (d.sd.B id).isSome) {k : Nat} : foot A { d with sd := d.sd.op.wr id l } k → foot A d k := by
  rintro (q | q | q | q | q | q | ⟨i, hi', q⟩)
  · exact .inl q
  · exact .inr (.inl q)
  · exact .inr (.inr (.inl q))
  · exact .inr (.inr (.inr (.inl q)))
  · exact .inr (.inr (.inr (.inr (.inl q))))
  · exact .inr (.inr (.inr (.inr (.inr (.inl q)))))
  · refine .inr (.inr (.inr (.inr (.inr (.inr ⟨i, ?_, q⟩)))))
    by_cases e : i = id
    · rw [e]; exact hi
    · simpa [Sd.wr, Sd.op, e] using hi'
def KpPost (A : Pa) (d d' : Pd) (w : World) (e : Ending) (w' : World) : Prop := e = .returned (.int .i64 0) ∧ Lay w' A d' ∧ Fr (foot A d) w w'
theorem foot_g {A : Pa} {d : Pd} {id : Nat} (hi : (d.sd.B id).isSome) : foot A d (d.sd.g id) := .inr (.inr (.inr (.inr (.inr (.inr ⟨id, hi, rfl⟩)))))
theorem Lay.store {w w' : World} {A : Pa} {d : Pd} {sd : Sd} {S : Nat → Prop} (h : Lay w A d) (hf : Fr S w w') (hS : ∀ k, S k → d.sd.mine A.s A.m k) (hs : Sto w' A.s A.m sd) (hn : sd.n = d.sd.n) (hnf : sd.fails < 0) : Lay w' A { d with sd := sd } := by
  refine h.bmsd (f := d.blk) hf (fun q => h.mine_p (hS _ q)) (fun q => h.mine_fb (hS _ q)) (fun q => h.mine_sm (hS _ q)) ?_ hs hnf
  rw [hn]
  exact h.bls.fr hf (fun q => h.mine_bm (hS _ q))
set_option maxHeartbeats 1000000 in
set_option maxRecDepth 100000 in
theorem keep_has {w : World} {A : Pa} {d : Pd} (h : Lay w A d) (a b id : Nat) (g off cp : Nat) (l : List Nat) (hx : small (a, b)) (hn : d.blk (a, b) = some id) (hB : (d.sd.B id).isSome = true) (ho : d.sd.ops < 1000000)
    (hy : Byt w (some ⟨g, off, none⟩) d.sd.size cp l) (hg : ¬ foot A d g) :
    Calls Try.prog 70 #[.pointer (some ⟨A.p, 0, none⟩), .agg #[.int .i64 a, .int .i64 b], .slice (some ⟨g, off, none⟩) d.sd.size cp] w (KpPost A d { d with sd := d.sd.op.wr id l } w) := by
  have c4 : w.cell? ⟨A.p, 4, none⟩ = some (.map (some A.bm)) := h.blk.cell 4
  have hl : ∀ k, (Instr.lookup 99 (.map (some A.bm)) (.agg #[.int .i64 a, .int .i64 b]) true).run Try.prog ((w.alloc (Obj.cells #[.int .i64 a, .int .i64 b] 104)).drewN k) = .ok (.tuple #[.int .i64 id, .bool true]) ((w.alloc (Obj.cells #[.int .i64 a, .int .i64 b] 104)).drewN k) := fun k => by
    have := ((h.bls.alloc (Obj.cells #[.int .i64 a, .int .i64 b] 104)).drewN k).look Try.underlying99 hx true
    rw [hn] at this
    exact this
  have hlt := h.blk.lt
  have H := Lib.hid h
  have HBi := Lib.hid hB
  have HY := Lib.hid hy
  clear h hn hB hy
  go_enter Try.func70, Try.ntmps70
  go_wp2
  go_quiet (fail)
  clear hl c4
  have hF0 : Fr (fun _ => False) w ((w.alloc (Obj.cells #[.int .i64 a, .int .i64 b] 104)).drewN nq) := ((Fr.refl _ w).alloc _).drewN _
  have hL0 : Lay ((w.alloc (Obj.cells #[.int .i64 a, .int .i64 b] 104)).drewN nq) A d := (H.out.alloc _).drewN nq
  have hY0 := HY.out.fr hF0 (fun q => q)
  generalize (w.alloc (Obj.cells #[.int .i64 a, .int .i64 b] 104)).drewN nq = W at hF0 hL0 hY0 ⊢
  have c1 : W.cell? ⟨A.p, 1, none⟩ = some (.pointer (some ⟨A.s, 0, none⟩)) := hL0.blk.cell 1
  have HW := Lib.hid (Write_ok A.s A.m d.sd id (some ⟨g, off, none⟩) cp l W hL0.sto HBi.out hY0 ho (Sd.fl_no hL0.nof))
  have HF0 := Lib.hid hF0
  have HL0 := Lib.hid hL0
  clear hF0 hL0 hlt hY0
  go_wp2_with (first
    | (go_at_call 83
       refine HW.out.mono ?_
       rintro e w1 ⟨rfl, hs, hf⟩
       have hlay : Lay w1 A { d with sd := d.sd.op.wr id l } := HL0.out.store hf (fun k hk => by rcases hk with q | q; exact .inl q; exact .inr (.inr ⟨id, HBi.out, q.symm⟩)) hs rfl HL0.out.nof
       have HL1 := Lib.hid hlay
       have HF1 := Lib.hid hf
       clear hs hf hlay)
    | (go_at_call 67; refine (met_ok HL1.out).mono ?_; rintro e w2 ⟨rfl, h2, f2⟩; have HL2 := Lib.hid h2; have HF2 := Lib.hid f2; clear h2 f2))
  go_ret
  refine ⟨rfl, HL2.out, ((HF0.out.more (fun _ q => q.elim)).trans (HF1.out.more (fun k hk => ?_))).trans (HF2.out.more (fun k hk => .inl hk))⟩
  rcases hk with q | q
  · exact .inr (.inr (.inr (.inr (.inl q))))
  · rw [q]; exact foot_g HBi.out
def KnPost (A : Pa) (d : Pd) (x : Nat × Nat) (l : List Nat) (w : World) (e : Ending) (w' : World) : Prop :=
  ∃ L G : Nat, d.sd.Low L ∧ w.heap.size ≤ G ∧ e = .returned (.int .i64 0) ∧ Lay w' A { d with blk := upd d.blk x (some L), sd := (d.sd.op.al L G).op.wr L l } ∧ Fr (foot A d) w w'
set_option maxHeartbeats 2000000 in
set_option maxRecDepth 100000 in
theorem keep_new {w : World} {A : Pa} {d : Pd} (h : Lay w A d) (a b : Nat) (g off cp : Nat) (l : List Nat) (hx : small (a, b)) (hn : d.blk (a, b) = none) (hc : d.sd.n < d.sd.cap) (ho : d.sd.ops < 900000)
    (hy : Byt w (some ⟨g, off, none⟩) d.sd.size cp l) (hg : ¬ foot A d g) (hgl : g < w.heap.size) :
    Calls Try.prog 70 #[.pointer (some ⟨A.p, 0, none⟩), .agg #[.int .i64 a, .int .i64 b], .slice (some ⟨g, off, none⟩) d.sd.size cp] w (KnPost A d (a, b) l w) := by
  have c4 : w.cell? ⟨A.p, 4, none⟩ = some (.map (some A.bm)) := h.blk.cell 4
  have hl : ∀ k, (Instr.lookup 99 (.map (some A.bm)) (.agg #[.int .i64 a, .int .i64 b]) true).run Try.prog ((w.alloc (Obj.cells #[.int .i64 a, .int .i64 b] 104)).drewN k) = .ok (.tuple #[.int .i64 0, .bool false]) ((w.alloc (Obj.cells #[.int .i64 a, .int .i64 b] 104)).drewN k) := fun k => by
    have := ((h.bls.alloc (Obj.cells #[.int .i64 a, .int .i64 b] 104)).drewN k).look Try.underlying99 hx true
    rw [hn] at this
    exact this
  have hlt := h.blk.lt
  have H := Lib.hid h
  have HN := Lib.hid hn
  have HX := Lib.hid hx
  have HY := Lib.hid hy
  clear h hn hy hx
  go_enter Try.func70, Try.ntmps70
  go_wp2
  go_quiet (fail)
  clear hl c4
  have hF0 : Fr (fun _ => False) w ((w.alloc (Obj.cells #[.int .i64 a, .int .i64 b] 104)).drewN nq) := ((Fr.refl _ w).alloc _).drewN _
  have hL0 : Lay ((w.alloc (Obj.cells #[.int .i64 a, .int .i64 b] 104)).drewN nq) A d := (H.out.alloc _).drewN nq
  have hX0 : Blk ((w.alloc (Obj.cells #[.int .i64 a, .int .i64 b] 104)).drewN nq) w.heap.size 104 #[.int .i64 a, .int .i64 b] := (Blk.new w 104 _).drewN nq
  have hY0 := HY.out.fr hF0 (fun q => q)
  generalize (w.alloc (Obj.cells #[.int .i64 a, .int .i64 b] 104)).drewN nq = W at hF0 hL0 hY0 hX0 ⊢
  obtain ⟨bx, ebx⟩ : ∃ bx, bx = w.heap.size := ⟨_, rfl⟩
  rw [← ebx] at hX0 hgl ⊢
  have c1 : W.cell? ⟨A.p, 1, none⟩ = some (.pointer (some ⟨A.s, 0, none⟩)) := hL0.blk.cell 1
  have HA := Lib.hid (Alloc_ok A.s A.m d.sd W hL0.sto (by omega) (Sd.fl_no hL0.nof) hc)
  have HF0 := Lib.hid hF0
  have HL0 := Lib.hid hL0
  have HX0 := Lib.hid hX0
  have HY0 := Lib.hid hY0
  have HEB := Lib.hid ebx
  unfold AlPost at HA
  clear hF0 hL0 hlt hY0 hX0 ebx
  go_wp2_with fail
  refine HA.out.mono ?_
  rintro e w1 ⟨L, G, rfl, hL, hG, hs, hf⟩
  have HLo := Lib.hid hL
  have HG := Lib.hid hG
  have HS1 := Lib.hid hs
  have HF1 := Lib.hid hf
  clear hL hG hs hf
  have hlim : d.sd.n < maxLen := by have := HL0.out.sto.capm; unfold maxLen; omega
  have hsm1 : ¬ (A.bm = A.s ∨ A.bm = A.m) := by rintro (q | q); exact HL0.out.sbm q; exact HL0.out.ne3 q
  have hpm1 : ¬ (A.p = A.s ∨ A.p = A.m) := by rintro (q | q); exact HL0.out.ps q.symm; exact HL0.out.pm q.symm
  have hbx1 : ¬ (bx = A.s ∨ bx = A.m) := by
    have := H.out.sto.blk.lt
    have := H.out.sto.im.lt
    have := HEB.out
    rintro (q | q) <;> omega
  obtain ⟨w2, hrun, hpm, hturn⟩ := ((HL0.out.bls.fr HF1.out hsm1).drewN 1).store Try.underlying99 hlim HX.out L
  have hrun' : (Instr.mapUpdate 99 (.map (some A.bm)) (.agg #[.int .i64 a, .int .i64 b]) (.int .i64 L)).run Try.prog w1.drew = .ok () w2 := hrun
  have hb2 : PM w2 A.bm (d.sd.n + 1) (upd d.blk (a, b) (some L)) := by rw [HN.out] at hpm; exact hpm
  have hf2 : Fr (· = A.bm) w1 w2 := (Fr.refl _ w1).drew.trans (turned_fr hturn)
  have hS2 : Sto w2 A.s A.m (d.sd.op.al L G) := HS1.out.fr hf2 (fun k hk e => by
    rw [e] at hk
    rcases hk with q | q | ⟨i, hi, q⟩
    · exact HL0.out.sbm q
    · exact HL0.out.ne3 q
    · obtain ⟨l', hl'⟩ := Option.isSome_iff_exists.1 hi
      have hb1 : PM w1 A.bm d.sd.n d.blk := HL0.out.bls.fr HF1.out hsm1
      exact hb1.ne_ (HS1.out.cont i l' hl').2.2 q.symm)
  have hlay : Lay w2 A { d with blk := upd d.blk (a, b) (some L), sd := d.sd.op.al L G } :=
    HL0.out.bmsd (f := upd d.blk (a, b) (some L)) (sd := d.sd.op.al L G) (S := fun k => (k = A.s ∨ k = A.m) ∨ k = A.bm) ((HF1.out.more (fun k hk => .inl hk)).trans (hf2.more (fun k hk => .inr hk)))
      (by rintro (q | q); exact hpm1 q; exact HL0.out.pbm q.symm) (by rintro ((q | q) | q); exact HL0.out.fs q.symm; exact HL0.out.fm q.symm; exact HL0.out.fbm q.symm) (by rintro ((q | q) | q); exact HL0.out.ssm q; exact HL0.out.ne2 q; exact HL0.out.ne1 q) hb2 hS2 HL0.out.nof
  have c4 : w1.cell? ⟨A.p, 4, none⟩ = some (.map (some A.bm)) := (HL0.out.blk.fr HF1.out hpm1).cell 4
  have x0 : w1.cell? ⟨bx, 0, none⟩ = some (.int .i64 a) := (HX0.out.fr HF1.out hbx1).cell 0
  have x1 : w1.cell? ⟨bx, 1, none⟩ = some (.int .i64 b) := (HX0.out.fr HF1.out hbx1).cell 1
  have hBL : ((d.sd.op.al L G).B L).isSome = true := by simp [Sd.al]
  have hY2 : Byt w2 (some ⟨g, off, none⟩) d.sd.size cp l := (HY0.out.fr HF1.out (by rintro (q | q); exact hg (.inr (.inr (.inr (.inr (.inl q))))); exact hg (.inr (.inr (.inr (.inr (.inr (.inl q)))))))).fr hf2 (fun q => hg (.inr (.inr (.inr (.inl q)))))
  have HW := Lib.hid (Write_ok A.s A.m (d.sd.op.al L G) L (some ⟨g, off, none⟩) cp l w2 hS2 hBL hY2 (by show d.sd.ops + 1 < 1000000; omega) (Sd.fl_no HL0.out.nof))
  have c1' : w2.cell? ⟨A.p, 1, none⟩ = some (.pointer (some ⟨A.s, 0, none⟩)) := hlay.blk.cell 1
  have hgL : (d.sd.op.al L G).g L = G := by simp [Sd.al]
  rw [hgL] at HW
  have HL1 := Lib.hid hlay
  have HF2 := Lib.hid hf2
  have HBL := Lib.hid hBL
  have HGL := Lib.hid hgL
  clear hrun hpm hturn hb2 hf2 hS2 hlay hBL hY2 hlim hsm1 hpm1 hbx1 hgL c1 hgl
  go_wp2
  go_region
  all_goals
    clear hrun' c4 x0 x1
    go_wp2_with (first
      | (go_at_call 83
         refine HW.out.mono ?_
         rintro e w3 ⟨rfl, hs, hf⟩
         have hlay : Lay w3 A { d with blk := upd d.blk (a, b) (some L), sd := (d.sd.op.al L G).op.wr L l } := HL1.out.store hf (fun k hk => by rcases hk with q | q; exact .inl q; exact .inr (.inr ⟨L, HBL.out, by rw [q]; exact HGL.out⟩)) hs rfl HL0.out.nof
         have HL3 := Lib.hid hlay
         have HF3 := Lib.hid hf
         clear hs hf hlay)
      | (go_at_call 67; refine (met_ok HL3.out).mono ?_; rintro e w4 ⟨rfl, h4, f4⟩; have HL4 := Lib.hid h4; have HF4 := Lib.hid f4; clear h4 f4))
    go_ret
    have f01 : Fr (foot A d) w w2 := ((HF0.out.more (fun _ q => q.elim)).trans (HF1.out.more (fun k hk => by rcases hk with q | q; exact .inr (.inr (.inr (.inr (.inl q)))); exact .inr (.inr (.inr (.inr (.inr (.inl q)))))))).trans (HF2.out.more (fun k hk => .inr (.inr (.inr (.inl hk)))))
    have hGw : w.heap.size ≤ G := Nat.le_trans HF0.out.size HG.out
    have f03 : Fr (foot A d) w w3 := f01.trans_new HF3.out (fun k hk => by
      rcases hk with q | q
      · exact .inl (.inr (.inr (.inr (.inr (.inl q)))))
      · exact .inr (by omega))
    exact ⟨L, G, HLo.out, hGw, rfl, HL4.out, f03.trans (HF4.out.more (fun k hk => .inl hk))⟩
end Go.Proofs.Ytlnffcledpccjaa
