/-
  What frames hold; frame.Frames.At, Top, Pop.
-/
import Derived.Test.YthfdblpodnodcaaUc
namespace Go.Proofs.Ythfdblpodnodcaa
open Go.RowKit
set_option linter.unusedVariables false
set_option linter.unusedSimpArgs false
theorem fr3_far {d : Ad} {p q : Nat} (x : Nat × Nat × Nat) (hl : p + 12 ≤ d.mem.length) (h : q + 12 ≤ p ∨ p + 12 ≤ q) : fr3 (d.fpk p x 3) q = fr3 d q := by
  unfold fr3 Ad.fpk
  dsimp only
  rw [psh_far 3 (by omega) (by omega), psh_far 3 (by omega) (by omega), psh_far 3 (by omega) (by omega)]
theorem p4 : (256 : Nat) ^ 4 = 4294967296 := by decide
theorem fr3_put {d : Ad} {p : Nat} {x : Nat × Nat × Nat} (hl : p + 12 ≤ d.mem.length) (hx : Rt x) : fr3 (d.fpk p x 3) p = x := by
  obtain ⟨h1, h2, h3⟩ := hx
  have e0 := psh_in (W := 4) (p := p) (j := 0) (mem := d.mem) (f := tri x) 3 (by omega) (by omega)
  have e1 := psh_in (W := 4) (p := p) (j := 1) (mem := d.mem) (f := tri x) 3 (by omega) (by omega)
  have e2 := psh_in (W := 4) (p := p) (j := 2) (mem := d.mem) (f := tri x) 3 (by omega) (by omega)
  rw [p4] at e0 e1 e2
  rw [Nat.mul_zero, Nat.add_zero, tri0, Nat.mod_eq_of_lt h1] at e0
  rw [Nat.mul_one, tri1, Nat.mod_eq_of_lt h2] at e1
  rw [show 4 * 2 = 8 from rfl, tri2, Nat.mod_eq_of_lt h3] at e2
  unfold fr3 Ad.fpk
  dsimp only
  rw [e0, e1, e2]
/-- the frames below h are F's -/
def FCon (d : Ad) (at_ h : Nat) (F : Nat → Nat × Nat × Nat) : Prop := ∀ j, j < h → fr3 d (at_ + 12 * j) = F j
theorem FCon.put {d : Ad} {at_ h n : Nat} {F : Nat → Nat × Nat × Nat} {x : Nat × Nat × Nat} (H : FCon d at_ h F) (hl : at_ + 12 * (n + 1) ≤ d.mem.length) (hl2 : at_ + 12 * h ≤ d.mem.length) (hx : Rt x) (hn : n ≤ h) (h' : Nat) (hh : h' ≤ h ∨ h' = n + 1 ∧ h = n) : FCon (d.fpk (at_ + 12 * n) x 3) at_ h' (fun j => if j = n then x else F j) := by
  intro j hj
  show fr3 (d.fpk (at_ + 12 * n) x 3) (at_ + 12 * j) = if j = n then x else F j
  by_cases e : j = n
  · subst e
    rw [fr3_put (by omega) hx, if_pos rfl]
  · rw [if_neg e, fr3_far x (by omega) (by omega)]
    exact H j (by omega)
theorem FCon.low {d : Ad} {at_ h h' : Nat} {F : Nat → Nat × Nat × Nat} (H : FCon d at_ h F) (hh : h' ≤ h) : FCon d at_ h' F := fun j hj => H j (by omega)
theorem FCon.cong {d : Ad} {at_ h : Nat} {F G : Nat → Nat × Nat × Nat} (H : FCon d at_ h F) (e : ∀ j, j < h → F j = G j) : FCon d at_ h G := fun j hj => (H j hj).trans (e j hj)
def AtPost (x : Nat × Nat × Nat) (c : Int) (w : World) (e : Ending) (w' : World) : Prop :=
  e = .returned (.tuple #[.agg (Tri x), .int .i64 c]) ∧ Below w.heap.size w w'
theorem z58 (w : World) : Blk (w.alloc (.cells #[.int .i64 0, .int .i64 0, .int .i64 0] 58)) w.heap.size 58 #[.int .i64 0, .int .i64 0, .int .i64 0] := Blk.new w 58 _
section
variable {w : World} {a bb rm gm : Nat} {d : Ad} {s at_ most h : Nat}
set_option maxHeartbeats 1000000 in
set_option maxRecDepth 100000 in
theorem At_nil (w : World) (n : Int) : Calls Try.prog 33 #[.pointer none, .int .i64 n] w (AtPost (0, 0, 0) 12 w) := by
  have HC := Lib.hid (fun w => fclosed_nil w)
  go_enter Try.func33, Try.ntmps33
  go_wp2_with (go_at_call 46; refine (HC.out _).mono ?_; rintro e w' ⟨rfl, rfl⟩)
  refine bodyPost_ret (v := .tuple #[.agg (Tri (0, 0, 0)), .int .i64 12]) (res_cell results33 _ _ w.heap.size 58 _ _ rfl (heap_alloc_new w _) Try.underlying58 rfl (by kernel_rfl)) rfl ?_
  exact ⟨rfl, below_alloc w _⟩
set_option maxHeartbeats 1000000 in
set_option maxRecDepth 100000 in
theorem At_no (H : FkI w a bb rm gm d s at_ most h) (n : Int) (hn : n < 0 ∨ (0 ≤ n ∧ (h : Int) ≤ n)) : Calls Try.prog 33 #[.pointer (some ⟨s, 0, none⟩), .int .i64 n] w (AtPost (0, 0, 0) 2 w) := by
  have hS := H.below (below_alloc w (.cells #[.int .i64 0, .int .i64 0, .int .i64 0] 58))
  have HC := Lib.hid (fclosed_no hS.blk)
  have c3 : (w.alloc (.cells #[.int .i64 0, .int .i64 0, .int .i64 0] 58)).cell? ⟨s, 3, none⟩ = some (.int .i64 h) := hS.blk.cell 3
  have h1 := H.hc
  have h2 := H.hh
  clear H hS
  rcases hn with hn | ⟨hn, hn2⟩
  all_goals
    go_enter Try.func33, Try.ntmps33
    go_wp2_with (go_at_call 46; refine HC.out.mono ?_; rintro e w' ⟨rfl, rfl⟩)
    refine bodyPost_ret (v := .tuple #[.agg (Tri (0, 0, 0)), .int .i64 2]) (res_cell results33 _ _ w.heap.size 58 _ _ rfl (heap_alloc_new w _) Try.underlying58 rfl (by kernel_rfl)) rfl ?_
    exact ⟨rfl, below_alloc w _⟩
set_option maxHeartbeats 1000000 in
set_option maxRecDepth 100000 in
theorem At_ok (H : FkI w a bb rm gm d s at_ most h) (n : Nat) (hn : n < h) : Calls Try.prog 33 #[.pointer (some ⟨s, 0, none⟩), .int .i64 n] w (AtPost (fr3 d (at_ + 12 * n)) 0 w) := by
  have hS := H.below (below_alloc w (.cells #[.int .i64 0, .int .i64 0, .int .i64 0] 58))
  have HC := Lib.hid (fclosed_no hS.blk)
  have c3 : (w.alloc (.cells #[.int .i64 0, .int .i64 0, .int .i64 0] 58)).cell? ⟨s, 3, none⟩ = some (.int .i64 h) := hS.blk.cell 3
  have h1 := H.hc
  have h2 := H.hh
  have HG := fget_ok hS n (by omega)
  unfold FgPost at HG
  obtain ⟨x, ex⟩ : ∃ x, x = fr3 d (at_ + 12 * n) := ⟨_, rfl⟩
  rw [← ex] at HG ⊢
  unfold Tri at HG
  have HG := Lib.hid HG
  clear H hS ex
  go_enter Try.func33, Try.ntmps33
  go_wp2_with (first
    | (go_at_call 46; refine HC.out.mono ?_; rintro e w' ⟨rfl, rfl⟩)
    | (go_at_call 49
       refine HG.out.mono ?_
       rintro e w2 ⟨rfl, hb⟩
       have HB2 := Lib.hid hb
       have hz := (z58 w).below hb (z58 w).lt
       have HZ := Lib.hid hz
       have b0 : w2.cell? ⟨w.heap.size, 0, none⟩ = some (.int .i64 0) := hz.cell 0
       have b1 : w2.cell? ⟨w.heap.size, 1, none⟩ = some (.int .i64 0) := hz.cell 1
       have b2 : w2.cell? ⟨w.heap.size, 2, none⟩ = some (.int .i64 0) := hz.cell 2
       have z0 := hz.frozen 0
       have z1 := hz.frozen 1
       have z2 := hz.frozen 2
       clear hb hz))
  refine bodyPost_ret (v := .tuple #[.agg (Tri x), .int .i64 0]) (res_cell results33 _ _ w.heap.size 58 _ _ rfl (((HZ.out.set_ 0 _).set_ 1 _).set_ 2 _) Try.underlying58 rfl (by kernel_rfl)) rfl ?_
  refine ⟨rfl, ?_⟩
  have hb := (below_alloc w (.cells #[.int .i64 0, .int .i64 0, .int .i64 0] 58)).trans (HB2.out.mono (below_alloc w _).size)
  exact ((hb.setCell (p := ⟨w.heap.size, 0, none⟩) (Nat.le_refl _) _).setCell (p := ⟨w.heap.size, 1, none⟩) (Nat.le_refl _) _).setCell (p := ⟨w.heap.size, 2, none⟩) (Nat.le_refl _) _
set_option maxHeartbeats 1000000 in
set_option maxRecDepth 100000 in
/-- Top, given what Depth and At answer -/
theorem Top_gen (P : Value) (x : Nat × Nat × Nat) (c n m : Int) (hm : IntKind.i64.wrap (n - 1) = m) (hn : 0 ≤ n) (hn2 : n ≤ 10000) (hD : ∀ w', Below w.heap.size w w' → Calls Try.prog 35 #[P] w' fun e w'' => e = .returned (.int .i64 n) ∧ w' = w'') (hA : ∀ w', Below w.heap.size w w' → Calls Try.prog 33 #[P, .int .i64 m] w' (AtPost x c w')) :
    Calls Try.prog 31 #[P] w (AtPost x c w) := by
  have hb0 := below_alloc w (.cells #[.int .i64 0, .int .i64 0, .int .i64 0] 58)
  have HD := Lib.hid (hD _ hb0)
  have HA := hA _ hb0
  unfold AtPost at HA
  unfold Tri at HA
  have HA := Lib.hid HA
  have e1 : n - 1 = m := by rw [← hm, IntWalk.i64_in _ (by omega)]
  clear hD hA hb0 hm
  go_enter Try.func31, Try.ntmps31
  go_wp2_with (first
    | (go_at_call 35; refine HD.out.mono ?_; rintro e w' ⟨rfl, rfl⟩)
    | (go_at_call 33
       refine HA.out.mono ?_
       rintro e w2 ⟨rfl, hb⟩
       have HB2 := Lib.hid hb
       have hz := (z58 w).below hb (z58 w).lt
       have HZ := Lib.hid hz
       have b0 : w2.cell? ⟨w.heap.size, 0, none⟩ = some (.int .i64 0) := hz.cell 0
       have b1 : w2.cell? ⟨w.heap.size, 1, none⟩ = some (.int .i64 0) := hz.cell 1
       have b2 : w2.cell? ⟨w.heap.size, 2, none⟩ = some (.int .i64 0) := hz.cell 2
       have z0 := hz.frozen 0
       have z1 := hz.frozen 1
       have z2 := hz.frozen 2
       clear hb hz))
  refine bodyPost_ret (v := .tuple #[.agg (Tri x), .int .i64 c]) (res_cell results31 _ _ w.heap.size 58 _ _ rfl (((HZ.out.set_ 0 _).set_ 1 _).set_ 2 _) Try.underlying58 rfl (by kernel_rfl)) rfl ?_
  refine ⟨rfl, ?_⟩
  have hb := (below_alloc w (.cells #[.int .i64 0, .int .i64 0, .int .i64 0] 58)).trans (HB2.out.mono (below_alloc w _).size)
  exact ((hb.setCell (p := ⟨w.heap.size, 0, none⟩) (Nat.le_refl _) _).setCell (p := ⟨w.heap.size, 1, none⟩) (Nat.le_refl _) _).setCell (p := ⟨w.heap.size, 2, none⟩) (Nat.le_refl _) _
theorem Top_ok (H : FkI w a bb rm gm d s at_ most (h + 1)) : Calls Try.prog 31 #[.pointer (some ⟨s, 0, none⟩)] w (AtPost (fr3 d (at_ + 12 * h)) 0 w) := by
  have h1 := H.hc
  have h2 := H.hh
  exact Top_gen _ _ 0 ((h + 1 : Nat) : Int) (h : Int) (by rw [IntWalk.i64_in _ (by omega)]; omega) (by omega) (by omega) (fun w' hb => Depth_ok (H.below hb).blk) (fun w' hb => At_ok (H.below hb) h (by omega))
theorem Top_no (H : FkI w a bb rm gm d s at_ most 0) : Calls Try.prog 31 #[.pointer (some ⟨s, 0, none⟩)] w (AtPost (0, 0, 0) 2 w) :=
  Top_gen _ _ 2 ((0 : Nat) : Int) (-1) (by decide) (by omega) (by omega) (fun w' hb => Depth_ok (H.below hb).blk) (fun w' hb => At_no (H.below hb) (-1) (by omega))
theorem Top_nil (w : World) : Calls Try.prog 31 #[.pointer none] w (AtPost (0, 0, 0) 12 w) :=
  Top_gen _ _ 12 0 (-1) (by decide) (by omega) (by omega) (fun w' hb => Depth_nil w') (fun w' hb => At_nil w' (-1))
theorem FkI.store58 {p : Addr} {cs : Array Value} (H : FkI w a bb rm gm d s at_ most h) (hg : Blk w p.block 58 cs) (u : Value) : FkI (w.setCell p u) a bb rm gm d s at_ most h := by
  have hf : Fr (· = p.block) w (w.setCell p u) := (Fr.refl (· = p.block) w).set_ rfl u
  refine ⟨H.are.fr hf ?_, H.blk.fr hf (H.blk.ne_ hg (by decide)), H.hh, H.hc, H.room⟩
  rintro k hk rfl
  rcases hk with q | q | q | q | ⟨c, hc, q⟩
  · rw [q] at hg; exact hg.ne_ H.are.blk (by decide) rfl
  · rw [q] at hg; exact hg.ne_ H.are.byt (by decide) rfl
  · obtain ⟨n, _, hi⟩ := H.are.rooms
    rw [q] at hg
    exact hi.ne_ hg rfl
  · obtain ⟨n, _, hi⟩ := H.are.given
    rw [q] at hg
    exact hi.ne_ hg rfl
  · obtain ⟨g', cap, cur, e, hg', _⟩ := H.are.row hc
    rw [e] at q
    simp only [Value.ownBlock, Option.some.injEq] at q
    rw [← q] at hg
    exact hg'.ne_ hg (by decide) rfl
def PfPost (a bb rm gm : Nat) (d : Ad) (s at_ most h : Nat) (x : Nat × Nat × Nat) (w : World) (e : Ending) (w' : World) : Prop :=
  e = .returned (.tuple #[.agg (Tri x), .int .i64 0]) ∧ FkI w' a bb rm gm d s at_ most h ∧ Fr (· = s) w w'
set_option maxHeartbeats 1000000 in
set_option maxRecDepth 100000 in
theorem FPop_ok (H : FkI w a bb rm gm d s at_ most (h + 1)) : Calls Try.prog 30 #[.pointer (some ⟨s, 0, none⟩)] w (PfPost a bb rm gm d s at_ most h (fr3 d (at_ + 12 * h)) w) := by
  have h1 := H.hc
  have h2 := H.hh
  have hS := H.below (below_alloc w (.cells #[.int .i64 0, .int .i64 0, .int .i64 0] 58))
  have HT := Top_ok hS
  unfold AtPost at HT
  obtain ⟨x, ex⟩ : ∃ x, x = fr3 d (at_ + 12 * h) := ⟨_, rfl⟩
  rw [← ex] at HT ⊢
  unfold Tri at HT
  have HT := Lib.hid HT
  have HS := Lib.hid hS
  clear H hS ex
  go_enter Try.func30, Try.ntmps30
  go_wp2_with (go_at_call 31
               refine HT.out.mono ?_
               rintro e w2 ⟨rfl, hb⟩
               have HB2 := Lib.hid hb
               have hz := (z58 w).below hb (z58 w).lt
               have HZ := Lib.hid hz
               have HS2 := Lib.hid (HS.out.below hb)
               have hS1 := (HS.out.below hb).below (below_alloc w2 (.cells #[.int .i64 x.1, .int .i64 x.2.1, .int .i64 x.2.2] 58))
               have hX1 : Blk (w2.alloc (.cells #[.int .i64 x.1, .int .i64 x.2.1, .int .i64 x.2.2] 58)) w2.heap.size 58 #[.int .i64 x.1, .int .i64 x.2.1, .int .i64 x.2.2] := Blk.new w2 58 _
               have hz1 := hz.alloc (.cells #[.int .i64 x.1, .int .i64 x.2.1, .int .i64 x.2.2] 58)
               have c3 : (w2.alloc (.cells #[.int .i64 x.1, .int .i64 x.2.1, .int .i64 x.2.2] 58)).cell? ⟨s, 3, none⟩ = some (.int .i64 ((h : Int) + 1)) := hS1.blk.cell 3
               have z3 := hS1.blk.frozen 3
               have hX2 := hX1.far (p := ⟨s, 3, none⟩) (hX1.ne_ hS1.blk (by decide)) (.int .i64 h)
               have hz2 := hz1.far (p := ⟨s, 3, none⟩) (hz1.ne_ hS1.blk (by decide)) (.int .i64 h)
               have a0 : ((w2.alloc (.cells #[.int .i64 x.1, .int .i64 x.2.1, .int .i64 x.2.2] 58)).setCell ⟨s, 3, none⟩ (.int .i64 h)).cell? ⟨w2.heap.size, 0, none⟩ = some (.int .i64 x.1) := hX2.cell 0
               have a1 : ((w2.alloc (.cells #[.int .i64 x.1, .int .i64 x.2.1, .int .i64 x.2.2] 58)).setCell ⟨s, 3, none⟩ (.int .i64 h)).cell? ⟨w2.heap.size, 1, none⟩ = some (.int .i64 x.2.1) := hX2.cell 1
               have a2 : ((w2.alloc (.cells #[.int .i64 x.1, .int .i64 x.2.1, .int .i64 x.2.2] 58)).setCell ⟨s, 3, none⟩ (.int .i64 h)).cell? ⟨w2.heap.size, 2, none⟩ = some (.int .i64 x.2.2) := hX2.cell 2
               have b0 : ((w2.alloc (.cells #[.int .i64 x.1, .int .i64 x.2.1, .int .i64 x.2.2] 58)).setCell ⟨s, 3, none⟩ (.int .i64 h)).cell? ⟨w.heap.size, 0, none⟩ = some (.int .i64 0) := hz2.cell 0
               have b1 : ((w2.alloc (.cells #[.int .i64 x.1, .int .i64 x.2.1, .int .i64 x.2.2] 58)).setCell ⟨s, 3, none⟩ (.int .i64 h)).cell? ⟨w.heap.size, 1, none⟩ = some (.int .i64 0) := hz2.cell 1
               have b2 : ((w2.alloc (.cells #[.int .i64 x.1, .int .i64 x.2.1, .int .i64 x.2.2] 58)).setCell ⟨s, 3, none⟩ (.int .i64 h)).cell? ⟨w.heap.size, 2, none⟩ = some (.int .i64 0) := hz2.cell 2
               have y0 := hz2.frozen 0
               have y1 := hz2.frozen 1
               have y2 := hz2.frozen 2
               have HS1 := Lib.hid hS1
               have HZ2 := Lib.hid hz2
               clear hb hz hz1 hz2 hX1 hX2 hS1)
  refine bodyPost_ret (v := .tuple #[.agg (Tri x), .int .i64 0]) (res_cell results30 _ _ w.heap.size 58 _ _ rfl (((HZ2.out.set_ 0 _).set_ 1 _).set_ 2 _) Try.underlying58 rfl (by kernel_rfl)) rfl ?_
  have hS3 := HS1.out.high (h' := h) (by omega) _ rfl rfl
  have hf2 : Fr (· = s) w ((w2.alloc (.cells #[.int .i64 x.1, .int .i64 x.2.1, .int .i64 x.2.2] 58)).setCell ⟨s, 3, none⟩ (.int .i64 h)) :=
    ((Fr.of_below (S := (· = s)) ((below_alloc w (.cells #[.int .i64 0, .int .i64 0, .int .i64 0] 58)).trans (HB2.out.mono (below_alloc w _).size))).alloc _).set_ (p := ⟨s, 3, none⟩) rfl _
  refine ⟨rfl, ((hS3.store58 (p := ⟨w.heap.size, 0, none⟩) HZ2.out _).store58 (p := ⟨w.heap.size, 1, none⟩) (HZ2.out.set_ 0 _) _).store58 (p := ⟨w.heap.size, 2, none⟩) ((HZ2.out.set_ 0 _).set_ 1 _) _, ?_⟩
  have hg : Fr (· = w.heap.size) ((w2.alloc (.cells #[.int .i64 x.1, .int .i64 x.2.1, .int .i64 x.2.2] 58)).setCell ⟨s, 3, none⟩ (.int .i64 h)) _ := (((Fr.refl (· = w.heap.size) _).set_ (p := ⟨w.heap.size, 0, none⟩) rfl (.int .i64 x.1)).set_ (p := ⟨w.heap.size, 1, none⟩) rfl (.int .i64 x.2.1)).set_ (p := ⟨w.heap.size, 2, none⟩) rfl (.int .i64 x.2.2)
  exact hf2.trans_new hg (fun i e => .inr (Nat.le_of_eq e.symm))
set_option maxHeartbeats 1000000 in
set_option maxRecDepth 100000 in
/-- Pop, where Top answers an error -/
theorem FPop_err (P : Value) (c : Int) (hc : c = 2 ∨ c = 12) (hT : ∀ w', Below w.heap.size w w' → Calls Try.prog 31 #[P] w' (AtPost (0, 0, 0) c w')) : Calls Try.prog 30 #[P] w (AtPost (0, 0, 0) c w) := by
  have HT := hT _ (below_alloc w (.cells #[.int .i64 0, .int .i64 0, .int .i64 0] 58))
  unfold AtPost at HT
  unfold Tri at HT
  have HT := Lib.hid HT
  have hc0 : (c == 0) = false := by rcases hc with rfl | rfl <;> rfl
  clear hT hc
  go_enter Try.func30, Try.ntmps30
  go_wp2_with (go_at_call 31
               refine HT.out.mono ?_
               rintro e w2 ⟨rfl, hb⟩
               have HB2 := Lib.hid hb
               have hz := (z58 w).below hb (z58 w).lt
               have hX1 : Blk (w2.alloc (.cells #[.int .i64 0, .int .i64 0, .int .i64 0] 58)) w2.heap.size 58 #[.int .i64 0, .int .i64 0, .int .i64 0] := Blk.new w2 58 _
               have hz1 := hz.alloc (.cells #[.int .i64 0, .int .i64 0, .int .i64 0] 58)
               have b0 : (w2.alloc (.cells #[.int .i64 0, .int .i64 0, .int .i64 0] 58)).cell? ⟨w.heap.size, 0, none⟩ = some (.int .i64 0) := hz1.cell 0
               have b1 : (w2.alloc (.cells #[.int .i64 0, .int .i64 0, .int .i64 0] 58)).cell? ⟨w.heap.size, 1, none⟩ = some (.int .i64 0) := hz1.cell 1
               have b2 : (w2.alloc (.cells #[.int .i64 0, .int .i64 0, .int .i64 0] 58)).cell? ⟨w.heap.size, 2, none⟩ = some (.int .i64 0) := hz1.cell 2
               have y0 := hz1.frozen 0
               have y1 := hz1.frozen 1
               have y2 := hz1.frozen 2
               have HZ2 := Lib.hid hz1
               clear hb hz hz1 hX1)
  refine bodyPost_ret (v := .tuple #[.agg (Tri (0, 0, 0)), .int .i64 c]) (res_cell results30 _ _ w.heap.size 58 _ _ rfl (((HZ2.out.set_ 0 _).set_ 1 _).set_ 2 _) Try.underlying58 rfl (by kernel_rfl)) rfl ?_
  refine ⟨rfl, ?_⟩
  have hb := ((below_alloc w (.cells #[.int .i64 0, .int .i64 0, .int .i64 0] 58)).trans (HB2.out.mono (below_alloc w _).size))
  have hb := hb.alloc (hb.size) (.cells #[.int .i64 0, .int .i64 0, .int .i64 0] 58)
  exact ((hb.setCell (p := ⟨w.heap.size, 0, none⟩) (Nat.le_refl _) _).setCell (p := ⟨w.heap.size, 1, none⟩) (Nat.le_refl _) _).setCell (p := ⟨w.heap.size, 2, none⟩) (Nat.le_refl _) _
end
end Go.Proofs.Ythfdblpodnodcaa
