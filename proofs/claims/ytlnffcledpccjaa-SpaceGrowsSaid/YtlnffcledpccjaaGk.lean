/-
  pager.Pager.want, reach of a page and bytes that are allowed.
-/
import Derived.Test.YtlnffcledpccjaaGj
namespace Go.Proofs.Ytlnffcledpccjaa
open Go.RowKit
set_option linter.unusedVariables false
set_option linter.unusedSimpArgs false
def WtPost (A : Pa) (d : Pd) (bb rm gm : Nat) (ad : Ad) (C : Nat × Nat → List Nat) (W : List (Nat × Nat)) (x : Nat × Nat) (w : World) (e : Ending) (w' : World) : Prop :=
  ∃ (j : Nat) (d' : Pd) (m' : List Nat), j < d.n ∧ e = .returned (.tuple #[.pointer (some ⟨A.fb, j * 6, none⟩), .int .i64 0]) ∧ Mx A d d' bb rm gm ad m' C W 3 w w' ∧ d'.tk j = true ∧ d'.pg j = x ∧ (∀ k, d'.ch k = true → d.ch k = true ∧ d'.pg k = d.pg k)
theorem Mx.touch {A : Pa} {d d' : Pd} {bb rm gm : Nat} {ad : Ad} {m' : List Nat} {C : Nat × Nat → List Nat} {W : List (Nat × Nat)} {N : Nat} {w w' : World} (hdis : ∀ k, ad.mine A.a bb rm gm k → ¬ foot A d k) (h : Mx A d d' bb rm gm ad m' C W N w w') {j : Nat} (hj : j < d.n) :
    Mx A d { d' with th := setB d'.th j true } bb rm gm ad m' C W N w (w'.setCell ⟨A.fb, j * 6 + 4, none⟩ (.bool true)) := by
  have hF : Fr (· = A.fb) w' (w'.setCell ⟨A.fb, j * 6 + 4, none⟩ (.bool true)) := (Fr.refl (· = A.fb) w').set_ (p := ⟨A.fb, j * 6 + 4, none⟩) rfl _
  refine ⟨h.lay.setth (by rw [h.n]; exact hj) true, h.pi.thhand _ _, h.are.fr hF (fun k hk e => hdis k hk (.inr (.inl e))), h.n, h.room, h.size, h.cap, h.ops, h.fr.trans (hF.more (fun k hk => .inl (.inr (.inl hk)))), h.ft, h.len, h.out⟩
theorem Mx.still {A : Pa} {d : Pd} {bb rm gm : Nat} {ad : Ad} {C : Nat × Nat → List Nat} {W : List (Nat × Nat)} {N : Nat} {w w' : World} (h : Lay w A d) (ha : Are w A.a bb rm gm ad) (hp : PI d ad.mem C W (fun _ => False)) (hf : Fr (fun _ => False) w w') :
    Mx A d d bb rm gm ad ad.mem C W N w w' :=
  ⟨h.fr hf (fun _ _ q => q), hp, ha.fr hf (fun _ _ q => q), rfl, rfl, rfl, rfl, Nat.le_add_right _ _, hf.more (fun _ q => q.elim), fun _ hk => .inl hk, rfl, fun _ _ => rfl⟩
set_option maxHeartbeats 2000000 in
set_option maxRecDepth 100000 in
theorem want_some {w : World} {A : Pa} {d : Pd} {C : Nat × Nat → List Nat} {W : List (Nat × Nat)} {bb rm gm : Nat} {ad : Ad} (h : Lay w A d) (ha : Are w A.a bb rm gm ad) (hdis : ∀ k, ad.mine A.a bb rm gm k → ¬ foot A d k) (hp : PI d ad.mem C W (fun _ => False))
    (a b i : Nat) (hx : small (a, b)) (hs : d.st (a, b) = some i) :
    Calls Try.prog 62 #[.pointer (some ⟨A.p, 0, none⟩), .agg #[.int .i64 a, .int .i64 b]] w (WtPost A d bb rm gm ad C W (a, b) w) := by
  have c3 : w.cell? ⟨A.p, 3, none⟩ = some (.map (some A.sm)) := h.blk.cell 3
  have c2 : w.cell? ⟨A.p, 2, none⟩ = some (.slice (some ⟨A.fb, 0, none⟩) d.n A.cap) := h.blk.cell 2
  have hl : ∀ k, (Instr.lookup 99 (.map (some A.sm)) (.agg #[.int .i64 a, .int .i64 b]) true).run Try.prog ((w.alloc (Obj.cells #[.int .i64 a, .int .i64 b] 104)).drewN k) = .ok (.tuple #[.int .i64 i, .bool true]) ((w.alloc (Obj.cells #[.int .i64 a, .int .i64 b] 104)).drewN k) := fun k => by
    obtain ⟨q, _, hst⟩ := h.sts
    have := ((hst.alloc (Obj.cells #[.int .i64 a, .int .i64 b] 104)).drewN k).look Try.underlying99 hx true
    rw [hs] at this
    exact this
  have hn1 := h.n1
  have hn2 := h.n2
  have hcap := h.cap1
  have hcap2 : A.cap ≤ 9223372036854775807 := h.cap2
  have hlt := h.blk.lt
  have hst := (hp.st (a, b) i).1 hs
  have hi := hst.1
  have H := Lib.hid h
  have HP := Lib.hid hp
  have HA := Lib.hid ha
  have HD := Lib.hid hdis
  have HST := Lib.hid hst
  clear h hp ha hdis hs hst hx
  go_enter Try.func62, Try.ntmps62
  go_wp2
  go_quiet (fail)
  clear hl c3
  have hF0 : Fr (fun _ => False) w ((w.alloc (Obj.cells #[.int .i64 a, .int .i64 b] 104)).drewN nq) := ((Fr.refl _ w).alloc _).drewN _
  have hL0 : Lay ((w.alloc (Obj.cells #[.int .i64 a, .int .i64 b] 104)).drewN nq) A d := (H.out.alloc _).drewN nq
  generalize (w.alloc (Obj.cells #[.int .i64 a, .int .i64 b] 104)).drewN nq = Y at hF0 hL0 ⊢
  have c2 : Y.cell? ⟨A.p, 2, none⟩ = some (.slice (some ⟨A.fb, 0, none⟩) d.n A.cap) := hL0.blk.cell 2
  have zz : ∀ i, Y.frozen? ⟨A.fb, i, none⟩ = false := fun i => hL0.ffrozen i
  have g4 : Y.cell? ⟨A.fb, i * 6 + 4, none⟩ = some (.bool (d.th i)) := hL0.fcell hi 4 rfl
  have HF0 := Lib.hid hF0
  have HL0 := Lib.hid hL0
  clear hF0 hL0 hlt
  go_wp2
  go_ret2
  exact ⟨i, { d with th := setB d.th i true }, ad.mem, hi, rfl, (Mx.still H.out HA.out HP.out HF0.out).touch HD.out hi, HST.out.2.1, HST.out.2.2, fun _ q => ⟨q, rfl⟩⟩
theorem Mx.from {A : Pa} {d d' : Pd} {bb rm gm : Nat} {ad : Ad} {m' : List Nat} {C : Nat × Nat → List Nat} {W : List (Nat × Nat)} {N : Nat} {w w0 w' : World} (hf : Fr (fun _ => False) w w0) (h : Mx A d d' bb rm gm ad m' C W N w0 w') : Mx A d d' bb rm gm ad m' C W N w w' :=
  ⟨h.lay, h.pi, h.are, h.n, h.room, h.size, h.cap, h.ops, (hf.more (fun _ q => q.elim)).trans h.fr, fun k hk => by
    rcases h.ft k hk with q | q
    · exact .inl q
    · exact .inr (Nat.le_trans hf.size q), h.len, h.out⟩
set_option maxHeartbeats 2000000 in
set_option maxRecDepth 100000 in
theorem want_none {w : World} {A : Pa} {d : Pd} {C : Nat × Nat → List Nat} {W : List (Nat × Nat)} {bb rm gm : Nat} {ad : Ad} (h : Lay w A d) (ha : Are w A.a bb rm gm ad) (hdis : ∀ k, ad.mine A.a bb rm gm k → ¬ foot A d k) (hp : PI d ad.mem C W (fun _ => False)) (ho : d.sd.ops < 900000) (hW : W.length ≤ d.sd.cap)
    (a b : Nat) (hx : small (a, b)) (hs : d.st (a, b) = none) :
    Calls Try.prog 62 #[.pointer (some ⟨A.p, 0, none⟩), .agg #[.int .i64 a, .int .i64 b]] w (WtPost A d bb rm gm ad C W (a, b) w) := by
  have c3 : w.cell? ⟨A.p, 3, none⟩ = some (.map (some A.sm)) := h.blk.cell 3
  have hl : ∀ k, (Instr.lookup 99 (.map (some A.sm)) (.agg #[.int .i64 a, .int .i64 b]) true).run Try.prog ((w.alloc (Obj.cells #[.int .i64 a, .int .i64 b] 104)).drewN k) = .ok (.tuple #[.int .i64 0, .bool false]) ((w.alloc (Obj.cells #[.int .i64 a, .int .i64 b] 104)).drewN k) := fun k => by
    obtain ⟨q, _, hst⟩ := h.sts
    have := ((hst.alloc (Obj.cells #[.int .i64 a, .int .i64 b] 104)).drewN k).look Try.underlying99 hx true
    rw [hs] at this
    exact this
  have hn1 := h.n1
  have hn2 := h.n2
  have hcap := h.cap1
  have hcap2 : A.cap ≤ 9223372036854775807 := h.cap2
  have hlt := h.blk.lt
  have H := Lib.hid h
  have HP := Lib.hid hp
  have HA := Lib.hid ha
  have HD := Lib.hid hdis
  have HN := Lib.hid hs
  have HX := Lib.hid hx
  clear h hp ha hdis hs hx
  go_enter Try.func62, Try.ntmps62
  go_wp2
  go_quiet (fail)
  clear hl c3
  have hF0 : Fr (fun _ => False) w ((w.alloc (Obj.cells #[.int .i64 a, .int .i64 b] 104)).drewN nq) := ((Fr.refl _ w).alloc _).drewN _
  have hX0 : Blk ((w.alloc (Obj.cells #[.int .i64 a, .int .i64 b] 104)).drewN nq) w.heap.size 104 #[.int .i64 a, .int .i64 b] := (Blk.new w 104 _).drewN nq
  generalize (w.alloc (Obj.cells #[.int .i64 a, .int .i64 b] 104)).drewN nq = Y at hF0 hX0 ⊢
  have x0 : Y.cell? ⟨w.heap.size, 0, none⟩ = some (.int .i64 a) := hX0.cell 0
  have x1 : Y.cell? ⟨w.heap.size, 1, none⟩ = some (.int .i64 b) := hX0.cell 1
  have HF0 := Lib.hid hF0
  have HX0 := Lib.hid hX0
  have HB := Lib.hid (bring_ok (H.out.fr hF0 (fun _ _ q => q)) (HA.out.fr hF0 (fun _ _ q => q)) HD.out HP.out ho hW a b HX.out HN.out)
  unfold BgPost at HB
  clear hF0 hX0 hlt
  go_wp2_with (go_at_call 77
               refine HB.out.mono ?_
               rintro e w1 ⟨j, d1, m1, hj, rfl, hm, ht, hpg, hch⟩
               have c2 : w1.cell? ⟨A.p, 2, none⟩ = some (.slice (some ⟨A.fb, 0, none⟩) d.n A.cap) := by rw [← hm.n]; exact hm.lay.blk.cell 2
               have zz : ∀ i, w1.frozen? ⟨A.fb, i, none⟩ = false := fun i => hm.lay.ffrozen i
               have g4 : w1.cell? ⟨A.fb, j * 6 + 4, none⟩ = some (.bool (d1.th j)) := hm.lay.fcell (by rw [hm.n]; exact hj) 4 rfl
               have HM := Lib.hid hm
               have HT := Lib.hid ht
               have HPG := Lib.hid hpg; have HCHG := Lib.hid hch
               clear hm ht hpg hch)
  go_ret2
  exact ⟨j, { d1 with th := setB d1.th j true }, m1, hj, rfl, (HM.out.from HF0.out).touch HD.out hj, HT.out, HPG.out, HCHG.out⟩
theorem want_ok {w : World} {A : Pa} {d : Pd} {C : Nat × Nat → List Nat} {W : List (Nat × Nat)} {bb rm gm : Nat} {ad : Ad} (h : Lay w A d) (ha : Are w A.a bb rm gm ad) (hdis : ∀ k, ad.mine A.a bb rm gm k → ¬ foot A d k) (hp : PI d ad.mem C W (fun _ => False)) (ho : d.sd.ops < 900000) (hW : W.length ≤ d.sd.cap)
    (a b : Nat) (hx : small (a, b)) :
    Calls Try.prog 62 #[.pointer (some ⟨A.p, 0, none⟩), .agg #[.int .i64 a, .int .i64 b]] w (WtPost A d bb rm gm ad C W (a, b) w) := by
  cases hs : d.st (a, b) with
  | some i => exact want_some h ha hdis hp a b i hx hs
  | none => exact want_none h ha hdis hp ho hW a b hx hs
set_option maxHeartbeats 2000000 in
set_option maxRecDepth 100000 in
theorem reach_ok {w : World} {A : Pa} {d : Pd} {C : Nat × Nat → List Nat} {W : List (Nat × Nat)} {bb rm gm : Nat} {ad : Ad} (h : Lay w A d) (ha : Are w A.a bb rm gm ad) (hdis : ∀ k, ad.mine A.a bb rm gm k → ¬ foot A d k) (hp : PI d ad.mem C W (fun _ => False)) (ho : d.sd.ops < 900000) (hW : W.length ≤ d.sd.cap)
    (a b o n : Nat) (hx : small (a, b)) (hon : o + n ≤ d.sd.size) :
    Calls Try.prog 40 #[.pointer (some ⟨A.p, 0, none⟩), .int .i64 a, .int .i64 b, .int .i64 o, .int .i64 n] w (WtPost A d bb rm gm ad C W (a, b) w) := by
  have HW_ := Lib.hid (works_ok h)
  have HS := Lib.hid (PSize_ok h)
  have hs2 := h.sto.hi
  have HB := Lib.hid (want_ok h ha hdis hp ho hW a b hx)
  unfold WtPost at HB
  have hx1 := hx.1
  have hx2 := hx.2
  simp only at hx1 hx2
  clear h ha hdis hp hx
  go_enter Try.func40, Try.ntmps40
  go_wp2_with (first
    | (go_at_call 43; refine HW_.out.mono ?_; rintro e w1 ⟨rfl, rfl⟩)
    | (go_at_call 54; refine HS.out.mono ?_; rintro e w1 ⟨rfl, rfl⟩)
    | (go_at_call 62; refine HB.out.mono ?_; rintro e w1 ⟨j, d1, m1, hj, rfl, hm, ht, hpg, hch⟩; have HM := Lib.hid hm; have HT := Lib.hid ht; have HPG := Lib.hid hpg; have HCHG := Lib.hid hch; clear hm ht hpg hch))
  go_ret2
  exact ⟨j, d1, m1, hj, rfl, HM.out, HT.out, HPG.out, HCHG.out⟩
end Go.Proofs.Ytlnffcledpccjaa
