/-
  Frames in memory: low, right, closed, Depth, Clear; numbers of a frame in the arena.
-/
import Derived.Test.YthfdblpodnodcaaTe
import Derived.BigQuiet
import Derived.IntWalk
import Derived.Deep.RegionHeld3
import Derived.Laws.ResultCell
namespace Go.Proofs.Ythfdblpodnodcaa
open Go.RowKit
set_option linter.unusedVariables false
set_option linter.unusedSimpArgs false
def fkC (a at_ most h : Nat) : Array Value := #[.pointer (some ⟨a, 0, none⟩), .int .i64 at_, .int .i64 most, .int .i64 h]
/-- calls, one within the other: their block s, their room in the arena, how many there may be, how many there are -/
structure FkI (w : World) (a bb rm gm : Nat) (d : Ad) (s at_ most h : Nat) : Prop where
  are : Are w a bb rm gm d
  blk : Blk w s 86 (fkC a at_ most h)
  hh : h ≤ most
  hc : most ≤ 10000
  room : at_ + 12 * most ≤ d.sz
theorem res_cell {fn : Func} {P : Program} {p u : Tmp} {ty : TypeId} (h : fn.results = #[.cell p ty, .tmp u]) (tmps : Array Value) (w : World) (g : Nat) (t : TypeId) (cs : Array Value) (d : TypeDesc)
    (hp : tmps.getD p undef = .pointer (some ⟨g, 0, none⟩)) (hg : w.heap[g]? = some (.cells cs t (0, 0))) (hu : P.underlying ty = some d) (hd : (match d with | .struct _ | .array _ _ => true | _ => false) = true) (hi : (P.info? ty).map (·.size) = some cs.size) :
    (results fn tmps).run P w = .ok (.tuple #[.agg cs, tmps.getD u undef]) w := by
  rw [results_cell_tmp h, hp]
  rw [show asAddr (.pointer (some ⟨g, 0, none⟩)) = pure ⟨g, 0, none⟩ from rfl]
  simp [run_loadVar_row w g t ty cs (0, 0) d hg hu hd hi]
theorem results55 : Try.f55.results = #[.cell 2 58] := by kernel_rfl
theorem results49 : Try.f49.results = #[.cell 4 58] := by kernel_rfl
theorem results33 : Try.f33.results = #[.cell 4 58, .tmp 5] := by kernel_rfl
theorem results31 : Try.f31.results = #[.cell 2 58, .tmp 3] := by kernel_rfl
theorem results30 : Try.f30.results = #[.cell 2 58, .tmp 3] := by kernel_rfl
theorem heap2 (w : World) (o o' : Obj) : ((w.alloc o).alloc o').heap[w.heap.size + 1]? = some o' := by
  have := heap_alloc_new (w.alloc o) o'
  rw [World.size_alloc] at this
  exact this
theorem below2 (w : World) (o o' : Obj) : Below w.heap.size w ((w.alloc o).alloc o') :=
  ((Below.refl _ _).alloc (Nat.le_refl _) o).alloc (by rw [World.size_alloc]; omega) o'
set_option maxRecDepth 100000 in
theorem low_any (x y z : Int) (w : World) : Calls Try.prog 55 #[.agg #[.int .i64 x, .int .i64 y, .int .i64 z]] w fun e w' => e = .returned (.agg #[.int .i64 (x % 4294967296), .int .i64 (y % 4294967296), .int .i64 (z % 4294967296)]) ∧ Below w.heap.size w w' := by
  go_enter Try.func55, Try.ntmps55
  go_wp2
  refine bodyPost_ret (v := .agg #[.int .i64 (x % 4294967296), .int .i64 (y % 4294967296), .int .i64 (z % 4294967296)]) (results_cell_row results55 _ _ (w.heap.size + 1) 58 _ (0, 0) _ rfl (heap2 w _ _) Try.underlying58 rfl (by kernel_rfl)) rfl ?_
  exact ⟨rfl, below2 w _ _⟩
theorem Below_undrew {B : Nat} {w w' : World} (h : Below B w.drew w') : Below B w w' := ⟨h.os, h.tape, h.output, h.size, h.block⟩
set_option maxRecDepth 100000 in
theorem right_any (x y z : Int) (w : World) (b : Bool) (hb : b = decide (x = x % 4294967296 ∧ y = y % 4294967296 ∧ z = z % 4294967296)) : Calls Try.prog 47 #[.agg #[.int .i64 x, .int .i64 y, .int .i64 z]] w fun e w' => e = .returned (.bool b) ∧ Below w.heap.size w w' := by
  have HL := Lib.hid (fun w => low_any x y z w)
  obtain ⟨X, hX⟩ : ∃ X, X = x % 4294967296 := ⟨_, rfl⟩
  obtain ⟨Y, hY⟩ : ∃ Y, Y = y % 4294967296 := ⟨_, rfl⟩
  obtain ⟨Z, hZ⟩ : ∃ Z, Z = z % 4294967296 := ⟨_, rfl⟩
  rw [← hX, ← hY, ← hZ] at HL hb
  have HB := Lib.hid hb
  clear hb hX hY hZ
  go_enter Try.func47, Try.ntmps47
  go_wp2
  have hN := Blk.new w 58 #[.int .i64 x, .int .i64 y, .int .i64 z]
  have k0 : (w.alloc (.cells #[.int .i64 x, .int .i64 y, .int .i64 z] 58)).drew.cell? ⟨w.heap.size, 0, none⟩ = some (.int .i64 x) := hN.cell 0
  have k1 : (w.alloc (.cells #[.int .i64 x, .int .i64 y, .int .i64 z] 58)).drew.cell? ⟨w.heap.size, 1, none⟩ = some (.int .i64 y) := hN.cell 1
  have k2 : (w.alloc (.cells #[.int .i64 x, .int .i64 y, .int .i64 z] 58)).drew.cell? ⟨w.heap.size, 2, none⟩ = some (.int .i64 z) := hN.cell 2
  have hlt : w.heap.size < (w.alloc (.cells #[.int .i64 x, .int .i64 y, .int .i64 z] 58)).drew.heap.size := hN.lt
  clear hN
  refine wp_region_held_drew (S := (fun W => W.cell? ⟨w.heap.size, 0, none⟩ = some (.int .i64 x) ∧ W.cell? ⟨w.heap.size, 1, none⟩ = some (.int .i64 y) ∧ W.cell? ⟨w.heap.size, 2, none⟩ = some (.int .i64 z))) (by kernel_rfl) ⟨k0, k1, k2⟩ (fun hHeld => ?_)
  refine wpAnyH_take (i := 0) (oi := ?oi_1) (v := ?_) ?hi_1 (by kernel_rfl) ?hf_1 (by kernel_rfl) ?hQ_1 ?hy_1 (by assumption) ?_
  case hi_1 => simp only [List.getElem?_toArray, List.getElem?_cons_zero, List.getElem?_cons_succ]; rfl
  case hf_1 => kernel_rfl
  case hQ_1 => exact fun _ _ _ h => h
  case hy_1 =>
    refine Or.inl ⟨by rfl, ?_⟩
    intro W hSw
    obtain ⟨q0, q1, q2⟩ := hSw
    go_simp
    try with_reducible rfl
  try simp only [Act.put, List.setIfInBounds_toArray, List.set_cons_zero, List.set_cons_succ]
  refine wpAnyH_take (i := 1) (oi := ?oi_2) (v := ?_) ?hi_2 (by kernel_rfl) ?hf_2 (by kernel_rfl) ?hQ_2 ?hy_2 (by assumption) ?_
  case hi_2 => simp only [List.getElem?_toArray, List.getElem?_cons_zero, List.getElem?_cons_succ]; rfl
  case hf_2 => kernel_rfl
  case hQ_2 => exact fun _ _ _ h => h
  case hy_2 =>
    refine Or.inl ⟨by rfl, ?_⟩
    intro W hSw
    obtain ⟨q0, q1, q2⟩ := hSw
    go_simp
    try with_reducible rfl
  try simp only [Act.put, List.setIfInBounds_toArray, List.set_cons_zero, List.set_cons_succ]
  refine wpAnyH_ready (rs := [2]) (by kernel_rfl) (by simp) ?_
  refine AllReadyH.cons (o := ?oi_3) ?hi_3 (fun K hK => ?_) AllReadyH.nil
  case hi_3 => simp only [List.getElem?_toArray, List.getElem?_cons_zero, List.getElem?_cons_succ]; rfl
  go_simp
  (go_at_call 55
   refine (HL.out _).mono ?_
   rintro e w2 ⟨rfl, hb⟩
   have HB2 := Lib.hid hb
   have g0 : w2.cell? ⟨w.heap.size, 0, none⟩ = some (.int .i64 x) := (hb.cell (p := ⟨w.heap.size, 0, none⟩) hlt).trans k0
   have g1 : w2.cell? ⟨w.heap.size, 1, none⟩ = some (.int .i64 y) := (hb.cell (p := ⟨w.heap.size, 1, none⟩) hlt).trans k1
   have g2 : w2.cell? ⟨w.heap.size, 2, none⟩ = some (.int .i64 z) := (hb.cell (p := ⟨w.heap.size, 2, none⟩) hlt).trans k2
   clear hb)
  refine hK.out _ _ ⟨g0, g1, g2⟩ (fun hHeld => ?_)
  clear hK K
  try simp only [Act.put, List.setIfInBounds_toArray, List.set_cons_zero, List.set_cons_succ]
  refine wpAnyH_take (i := 3) (oi := ?oi_4) (v := .bool b) ?hi_4 (by kernel_rfl) ?hf_4 (by kernel_rfl) ?hQ_4 ?hy_4 (by assumption) ?_
  case hi_4 => simp only [List.getElem?_toArray, List.getElem?_cons_zero, List.getElem?_cons_succ]; rfl
  case hf_4 => kernel_rfl
  case hQ_4 => exact fun _ _ _ h => h
  case hy_4 =>
    refine Or.inl ⟨by rfl, ?_⟩
    intro W hSw
    obtain ⟨q0, q1, q2⟩ := hSw
    go_simp
    rw [HB.out]
    by_cases j1 : x = X <;> by_cases j2 : y = Y <;> by_cases j3 : z = Z <;> simp [j1, j2, j3]
  try simp only [Act.put, List.setIfInBounds_toArray, List.set_cons_zero, List.set_cons_succ]
  refine wpAnyH_take (i := 4) (oi := ?oi_5) (v := ?_) ?hi_5 (by kernel_rfl) ?hf_5 (by kernel_rfl) ?hQ_5 ?hy_5 (by assumption) ?_
  case hi_5 => simp only [List.getElem?_toArray, List.getElem?_cons_zero, List.getElem?_cons_succ]; rfl
  case hf_5 => kernel_rfl
  case hQ_5 => exact fun _ _ _ h => h
  case hy_5 =>
    refine Or.inl ⟨by rfl, ?_⟩
    intro W hSw
    obtain ⟨q0, q1, q2⟩ := hSw
    go_simp
    try with_reducible rfl
  try simp only [Act.put, List.setIfInBounds_toArray, List.set_cons_zero, List.set_cons_succ]
  refine wpAnyH_done (by kernel_rfl) ?_ _
  clear hHeld
  simp only [Exit.inBlock, Exit.then]
  go_wp2
  go_ret
  exact ⟨rfl, (below_alloc w _).trans ((Below_undrew HB2.out).mono (below_alloc w _).size)⟩
section
variable {w : World} {a bb rm gm : Nat} {d : Ad} {s at_ most h : Nat}
theorem FkI.drewN (H : FkI w a bb rm gm d s at_ most h) (k : Nat) : FkI (w.drewN k) a bb rm gm d s at_ most h := ⟨H.are.drewN k, H.blk.drewN k, H.hh, H.hc, H.room⟩
theorem FkI.sa (H : FkI w a bb rm gm d s at_ most h) : s ≠ a := H.blk.ne_ H.are.blk (by decide)
theorem FkI.sb (H : FkI w a bb rm gm d s at_ most h) : s ≠ bb := H.blk.ne_ H.are.byt (by decide)
theorem FkI.below {w' : World} (H : FkI w a bb rm gm d s at_ most h) (hb : Below w.heap.size w w') : FkI w' a bb rm gm d s at_ most h :=
  ⟨H.are.below hb (Nat.le_refl _), H.blk.below hb H.blk.lt, H.hh, H.hc, H.room⟩
theorem FkI.cong {d' : Ad} {h' : Nat} (H : FkI w a bb rm gm d s at_ most h) (e : d = d') (e2 : h = h') : FkI w a bb rm gm d' s at_ most h' := by subst e; subst e2; exact H
theorem FkI.len (H : FkI w a bb rm gm d s at_ most h) : at_ + 12 * most ≤ d.mem.length := by rw [H.are.len]; exact H.room
theorem FkI.mine (H : FkI w a bb rm gm d s at_ most h) : ∀ k, d.mine a bb rm gm k → k ≠ s := by
  rintro k hk rfl
  rcases hk with q | q | q | q | ⟨c, hc, q⟩
  · exact H.sa q
  · exact H.sb q
  · obtain ⟨n, _, hi⟩ := H.are.rooms
    exact hi.ne_ H.blk q.symm
  · obtain ⟨n, _, hi⟩ := H.are.given
    exact hi.ne_ H.blk q.symm
  · obtain ⟨g, cap, cur, e, hg, _⟩ := H.are.row hc
    rw [e] at q
    simp only [Value.ownBlock, Option.some.injEq] at q
    subst q
    exact hg.ne_ H.blk (by decide) rfl
/-- how many there are is set -/
theorem FkI.high {w' : World} {h' : Nat} (H : FkI w a bb rm gm d s at_ most h) (hh : h' ≤ most) (u : Value) (hu : u = .int .i64 h') (e : w' = w.setCell ⟨s, 3, none⟩ u) : FkI w' a bb rm gm d s at_ most h' := by
  subst hu
  subst e
  have hf : Fr (· = s) w (w.setCell ⟨s, 3, none⟩ (.int .i64 h')) := (Fr.refl (· = s) w).set_ (p := ⟨s, 3, none⟩) rfl _
  exact ⟨H.are.fr hf H.mine, H.blk.set_ 3 _, hh, H.hc, H.room⟩
set_option maxRecDepth 100000 in
theorem fclosed_no (H : Blk w s 86 (fkC a at_ most h)) : Calls Try.prog 46 #[.pointer (some ⟨s, 0, none⟩)] w fun e w' => e = .returned (.bool false) ∧ w = w' := by
  have c0 : w.cell? ⟨s, 0, none⟩ = some (.pointer (some ⟨a, 0, none⟩)) := H.cell 0
  clear H
  go_enter Try.func46, Try.ntmps46
  go_wp2
  go_ret
  exact ⟨rfl, rfl⟩
set_option maxRecDepth 100000 in
theorem fclosed_nil (w : World) : Calls Try.prog 46 #[.pointer none] w fun e w' => e = .returned (.bool true) ∧ w = w' := by
  go_enter Try.func46, Try.ntmps46
  go_wp2
  go_ret
  exact ⟨rfl, rfl⟩
set_option maxRecDepth 100000 in
theorem fclosed_yes (H : Blk w s 86 skZ) : Calls Try.prog 46 #[.pointer (some ⟨s, 0, none⟩)] w fun e w' => e = .returned (.bool true) ∧ w = w' := by
  have c0 : w.cell? ⟨s, 0, none⟩ = some (.pointer none) := H.cell 0
  clear H
  go_enter Try.func46, Try.ntmps46
  go_wp2
  go_ret
  exact ⟨rfl, rfl⟩
set_option maxRecDepth 100000 in
theorem Depth_ok (H : Blk w s 86 (fkC a at_ most h)) : Calls Try.prog 35 #[.pointer (some ⟨s, 0, none⟩)] w fun e w' => e = .returned (.int .i64 h) ∧ w = w' := by
  have c0 : w.cell? ⟨s, 3, none⟩ = some (.int .i64 h) := H.cell 3
  clear H
  go_enter Try.func35, Try.ntmps35
  go_wp2
  go_ret
  exact ⟨rfl, rfl⟩
set_option maxRecDepth 100000 in
theorem Depth_shut (H : Blk w s 86 skZ) : Calls Try.prog 35 #[.pointer (some ⟨s, 0, none⟩)] w fun e w' => e = .returned (.int .i64 0) ∧ w = w' := by
  have c0 : w.cell? ⟨s, 3, none⟩ = some (.int .i64 0) := H.cell 3
  clear H
  go_enter Try.func35, Try.ntmps35
  go_wp2
  go_ret
  exact ⟨rfl, rfl⟩
set_option maxRecDepth 100000 in
theorem Depth_nil (w : World) : Calls Try.prog 35 #[.pointer none] w fun e w' => e = .returned (.int .i64 0) ∧ w = w' := by
  go_enter Try.func35, Try.ntmps35
  go_wp2
  go_ret
  exact ⟨rfl, rfl⟩
set_option maxRecDepth 100000 in
theorem Clear_ok (H : FkI w a bb rm gm d s at_ most h) : Calls Try.prog 34 #[.pointer (some ⟨s, 0, none⟩)] w fun e w' => e = .returned (.tuple #[]) ∧ FkI w' a bb rm gm d s at_ most 0 ∧ Fr (· = s) w w' := by
  have c3 : w.cell? ⟨s, 3, none⟩ = some (.int .i64 h) := H.blk.cell 3
  have z3 := H.blk.frozen 3
  have HS := Lib.hid H
  clear H
  go_enter Try.func34, Try.ntmps34
  go_wp2
  go_end0
  exact ⟨rfl, HS.out.high (Nat.zero_le _) _ rfl rfl, (Fr.refl (· = s) w).set_ (p := ⟨s, 3, none⟩) rfl _⟩
set_option maxRecDepth 100000 in
theorem Clear_nil (w : World) : Calls Try.prog 34 #[.pointer none] w fun e w' => e = .returned (.tuple #[]) ∧ w = w' := by
  go_enter Try.func34, Try.ntmps34
  go_wp2
  go_end0
  exact ⟨rfl, rfl⟩
end
end Go.Proofs.Ythfdblpodnodcaa
