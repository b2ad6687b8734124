/-
  valid.Is: of no module; of a fit one without functions.
-/
import Derived.Test.YtahbnhhdpcieiaaGreatDoorEd
import Derived.OwnWalk
import Derived.WalkKit
import Derived.ProofKit
namespace Go.Proofs.YtahbnhhdpcieiaaGreatDoor
open Go.RowKit Go.Shelf
set_option linter.unusedVariables false
set_option linter.unusedSimpArgs false
attribute [local go_sem] Oper.semAt_some
def Z183 : Array Value := #[.string ⟨#[]⟩, .int .i64 0, .int .i64 0, .int .i64 0]
def N183 : Array Value := #[.string ⟨#[]⟩, .int .i64 (-1), .int .i64 0, .int .i64 12]
theorem wpList_store183 {ops : Array Oper} {rest : List Oper} {o : Oper} {a : Act} {w : World} {Q : Exit → Act → World → Prop} (hgd : o.guard = none) (x y : Operand) (ho : o.op = .store 183 x y)
    (g : Nat) (old : Array Value) (s : ByteArray) (p q r : Int) (hx : a.eval x = .pointer (some ⟨g, 0, none⟩)) (hy : a.eval y = .agg #[.string s, .int .i64 p, .int .i64 q, .int .i64 r])
    (hg : Blk w g 183 old) (hold : Hid (old.size = 4))
    (h : wpList Tryz.prog ops Q rest (a.put o.dst undef) (w.setRow g #[.string s, .int .i64 p, .int .i64 q, .int .i64 r])) : wpList Tryz.prog ops Q (o :: rest) a w :=
  wpList_store_row hgd 183 x y ho g _ hx hy 183 old hg (by kernel_rfl) (by rw [hold.out]; rfl) (by simp [Value.oneCell']) h
theorem results68 : Tryz.f68.results = #[.cell 2 183, .cell 3 4] := by kernel_rfl
theorem res68 (tmps : Array Value) (w : World) (g h : Nat) (cs : Array Value) (v : Bool) (h1 : tmps.getD 2 undef = .pointer (some ⟨g, 0, none⟩)) (h2 : tmps.getD 3 undef = .pointer (some ⟨h, 0, none⟩))
    (hg : Blk w g 183 cs) (hs : cs.size = 4) (hc : w.cell? ⟨h, 0, none⟩ = some (.bool v)) : (results Tryz.f68 tmps).run Tryz.prog w = .ok (.tuple #[.agg cs, .bool v]) w := by
  have h1' : tmps[2]?.getD undef = .pointer (some ⟨g, 0, none⟩) := by simpa using h1
  have h2' : tmps[3]?.getD undef = .pointer (some ⟨h, 0, none⟩) := by simpa using h2
  have hl := run_loadVar_row (P := Tryz.prog) w g 183 183 cs (0, 0) _ hg Tryz.underlying183 rfl (by rw [hs]; kernel_rfl)
  have hl2 : (loadVar 4 ⟨h, 0, none⟩).run Tryz.prog w = .ok (.bool v) w := by simp [go_sem, hc]
  simp [results, results68, h1', h2', asAddr, hl, hl2]
set_option maxRecDepth 100000 in
theorem findings_ok (v : Option Addr) (w : World) : Calls Tryz.prog 114 #[.pointer v] w fun e w' => e = .returned (.func (.func 138) #[] #[.pointer (some ⟨w.heap.size, 0, none⟩)]) ∧ w.alloc (.cells #[.pointer v] 43) = w' := by
  go_enter Tryz.func114, Tryz.ntmps114
  go_wp2
  go_ret
  exact ⟨rfl, rfl⟩
set_option maxRecDepth 100000 in
theorem it_none (l b g : Nat) (cs : Array Value) (w : World) (hb : Blk w b 43 #[.pointer (some ⟨g, 0, none⟩)]) (hm : Blk w g 92 cs) (h2 : cs[2]? = some (.slice none 0 0))
    (hF : ∀ W, Below w.heap.size w W → Calls Tryz.prog 139 #[.pointer (some ⟨g, 0, none⟩)] W fun e w' => e = .returned (.tuple #[.string ⟨#[]⟩, .int .i64 0]) ∧ Below W.heap.size W w') :
    Calls Tryz.prog 138 #[.func (.yield l) #[] #[], .pointer (some ⟨b, 0, none⟩)] w fun e w' => (∃ v, e = .returned v) ∧ Below w.heap.size w w' := by
  have HF := Lib.hid (hF w (Below.refl _ _))
  have y0 : w.cell? ⟨b, 0, none⟩ = some (.pointer (some ⟨g, 0, none⟩)) := hb.cell 0
  have HB := Lib.hid hb
  have HM := Lib.hid hm
  have H2 := Lib.hid h2
  clear hF hb hm h2
  go_enter Tryz.func138, Tryz.ntmps138
  go_wp2_with (go_at_call 139; (refine HF.out.mono ?_); rintro e w1 ⟨rfl, hb1⟩
               have z0 : w1.cell? ⟨b, 0, none⟩ = some (.pointer (some ⟨g, 0, none⟩)) := (HB.out.below hb1 HB.out.lt).cell 0
               have z2 : w1.cell? ⟨g, 2, none⟩ = some (.slice none 0 0) := ((HM.out.below hb1 HM.out.lt).cell 2).trans H2.out
               have HB1 := Lib.hid hb1
               clear hb1)
  go_loopw [25] (fun v25 wr => v25 = .int .i64 0 ∧ Hid (wr = w1)) (fun _ _ => 0)
  case atStart => exact ⟨rfl, Lib.hid rfl⟩
  case round =>
    obtain ⟨rfl, HW⟩ := hrel
    obtain rfl := HW.out
    go_wp2
    go_end0
    exact ⟨⟨_, rfl⟩, HB1.out⟩
set_option maxHeartbeats 2000000 in
set_option maxRecDepth 100000 in
theorem it_nil (m l b : Nat) (w : World) (R : World → Prop) (hb : Blk w b 43 #[.pointer none])
    (hY : YieldAt Fence.wide m Tryz.prog l #[.agg N183] w fun e W' => e = .returned (.bool false) ∧ R W') :
    CallsIn Fence.wide (m + 1) Tryz.prog 138 #[.func (.yield l) #[] #[], .pointer (some ⟨b, 0, none⟩)] w fun e W' => (∃ v, e = .returned v) ∧ R W' := by
  have c0 : w.cell? ⟨b, 0, none⟩ = some (.pointer none) := hb.cell 0
  have HS := Lib.hid (nil_Fit w)
  clear hb
  unfold N183 at hY
  refine callsIn_of_wp Tryz.func138 rfl trivial ?_ rfl
  simp only [Tryz.ntmps138, List.size_toArray, List.length_cons, List.length_nil, Nat.reduceAdd, Nat.reduceSub, Array.replicate_succ, Array.replicate_zero, List.push_toArray, List.append_toArray, List.nil_append, List.cons_append]
  obtain ⟨fn, tmps, assign, body, hy2, hR⟩ := hY
  gi_wp2_with (refine ⟨trivial, ?_⟩; gi_at_call 139; refine (callsIn_wide.2 HS.out).mono ?_; rintro e w1 ⟨rfl, rfl⟩)
  refine hR.mono ?_
  rintro e W' ⟨rfl, hJ⟩
  have HJ := Lib.hid hJ
  clear hJ
  gi_wp2
  refine bodyPost_ret (results_none (by kernel_rfl) _ _ _) rfl ?_
  exact ⟨⟨_, rfl⟩, HJ.out⟩
set_option maxHeartbeats 2000000 in
set_option maxRecDepth 100000 in
theorem First_none (g : Nat) (cs : Array Value) (w : World) (hm : Blk w g 92 cs) (h2 : cs[2]? = some (.slice none 0 0))
    (hF : ∀ W, Below w.heap.size w W → Calls Tryz.prog 139 #[.pointer (some ⟨g, 0, none⟩)] W fun e w' => e = .returned (.tuple #[.string ⟨#[]⟩, .int .i64 0]) ∧ Below W.heap.size W w') :
    Calls Tryz.prog 68 #[.pointer (some ⟨g, 0, none⟩)] w fun e w' => e = .returned (.tuple #[.agg Z183, .bool false]) ∧ Below w.heap.size w w' := by
  have HF := Lib.hid hF
  have HM := Lib.hid hm
  have H2 := Lib.hid h2
  clear hF hm h2
  refine callsIn_wide.1 (callsIn_of_wp_marks (n := 3) Tryz.func68 rfl trivial (wpIn_wide.2 ?_))
  simp only [Tryz.ntmps68, List.size_toArray, List.length_cons, List.length_nil, Nat.reduceAdd, Nat.reduceSub, Array.replicate_succ, Array.replicate_zero, List.push_toArray, List.append_toArray, List.nil_append, List.cons_append]
  go_wp2_with (go_at_call 114; (refine (findings_ok _ _).mono ?_); rintro e w1 ⟨rfl, hw1⟩; have HW1 := Lib.hid hw1; clear hw1)
  have hw1 := HW1.out
  have hs1 : w1.heap.size = w.heap.size + 3 := by rw [← hw1]; simp
  have hB1 : Below w.heap.size w w1 := by rw [← hw1]; exact (((Below.refl _ w).alloc (Nat.le_refl _) _).alloc (by simp) _).alloc (by simp; omega) _
  have hb0 : Blk w1 w.heap.size 183 Z183 := by rw [← hw1]; exact ((Blk.new w 183 _).alloc _).alloc _
  have hb1 : Blk w1 (w.heap.size + 1) 4 #[.bool false] := by
    rw [← hw1]
    have h := (Blk.new (w.alloc (Obj.cells #[Value.string { data := #[] }, Value.int IntKind.i64 0, Value.int IntKind.i64 0, Value.int IntKind.i64 0] 183)) 4 #[.bool false])
    rw [World.size_alloc] at h
    exact h.alloc _
  have hb2 : Blk w1 (w.heap.size + 2) 43 #[.pointer (some ⟨g, 0, none⟩)] := by
    rw [← hw1]
    have h := (Blk.new ((w.alloc (Obj.cells #[Value.string { data := #[] }, Value.int IntKind.i64 0, Value.int IntKind.i64 0, Value.int IntKind.i64 0] 183)).alloc (Obj.cells #[Value.bool false] 4)) 43 #[.pointer (some ⟨g, 0, none⟩)])
    rw [World.size_alloc, World.size_alloc] at h
    exact h
  have HH := Lib.hid (And.intro hs1 (And.intro hB1 (And.intro hb0 (And.intro hb1 hb2))))
  clear hw1 HW1 hs1 hB1 hb0 hb1 hb2
  refine wpIn_wide.1 (range_none (m := 1) 3 (w.heap.size + 2) rfl rfl (fun l W hW => ?_) (fun W hW hD => ?_))
  · obtain ⟨hs1, hB1, hb0, hb1, hb2⟩ := HH.out
    have hm1 := HM.out.below hB1 HM.out.lt
    exact it_none l _ g cs W (hb2.below hW hb2.lt) (hm1.below hW hm1.lt) H2.out (fun V hV => HF.out V (hB1.trans ((hW.mono hB1.size).trans (hV.mono (Nat.le_trans hB1.size hW.size)))))
  · have h0 := (HH.out.2.2.1.below hW HH.out.2.2.1.lt)
    have h1 := (HH.out.2.2.2.1.below hW HH.out.2.2.2.1.lt)
    have HE := Lib.hid (And.intro hW (And.intro hD (And.intro h0 h1)))
    have d1 : ∀ q, (W.setRow w.heap.size q).cell? ⟨w.heap.size + 1, 0, none⟩ = some (.bool false) := fun q => (h1.fr (fr_setRow W _ q) (by omega)).cell 0
    have z1 : ∀ q, (W.setRow w.heap.size q).frozen? ⟨w.heap.size + 1, 0, none⟩ = false := fun q => (h1.fr (fr_setRow W _ q) (by omega)).frozen 0
    clear hW hD h0 h1
    simp only [Exit.inBlock, Exit.then]
    go_wp2_with (with_reducible refine wpList_store183 rfl (.tmp 2) (.tmp 9) rfl w.heap.size Z183 _ _ _ _ rfl rfl HE.out.2.2.1 (Lib.hid rfl) ?_)
    obtain ⟨hW, hD, h0, h1⟩ := HE.out
    obtain ⟨hs1, hB1, _⟩ := HH.out
    obtain ⟨W5, hW5⟩ : ∃ W5, W5 = (W.setRow w.heap.size Z183).setCell ⟨w.heap.size + 1, 0, none⟩ (.bool false) := ⟨_, rfl⟩
    unfold Z183 at hW5
    rw [← hW5]
    have hF5 : Fr (fun q => q = w.heap.size ∨ q = w.heap.size + 1) W W5 := by
      rw [hW5]
      exact ((fr_setRow W w.heap.size _).more (fun q hq => .inl hq)).set_ (p := ⟨w.heap.size + 1, 0, none⟩) (.inr rfl) _
    have hb0 : Blk W5 w.heap.size 183 Z183 := by
      rw [hW5]
      exact Blk.far (setRow_heap W w.heap.size Z183 Z183 183 (0, 0) h0) (p := ⟨w.heap.size + 1, 0, none⟩) (by show w.heap.size ≠ w.heap.size + 1; omega) _
    have hb1 : Blk W5 (w.heap.size + 1) 4 #[.bool false] := by
      rw [hW5]
      exact ((h1.fr (fr_setRow W w.heap.size _) (by omega)).set_ 0 _)
    have hK5 : W5.heap[w1.heap.size]? = some (.deferred (some [])) := (hF5.block _ (by rw [← hs1] at *; have := hW.size; rcases Nat.lt_or_ge w1.heap.size W.heap.size with q | q; exact q; rw [Array.getElem?_eq_none q] at hD; cases hD) (by omega)).trans hD
    refine ⟨by simp, .inl ⟨_, _, rfl, run_takeDeferred hK5, ?_⟩⟩
    have hF6 : Fr (fun q => q = w1.heap.size) W5 (W5.putObj w1.heap.size (.deferred none)) := (Fr.refl _ W5).putObj _ rfl
    obtain ⟨W6, hW6⟩ : ∃ W6, W6 = W5.putObj w1.heap.size (.deferred none) := ⟨_, rfl⟩
    rw [← hW6] at hF6 ⊢
    have hc0 := hb0.fr hF6 (by omega)
    have hc1 := (hb1.fr hF6 (by omega)).cell 0
    refine ⟨.tuple #[.agg Z183, .bool false], res68 _ _ _ _ _ _ rfl rfl hc0 rfl hc1, rfl, ?_⟩
    have hBW := hB1.trans (hW.mono hB1.size)
    exact hF6.below (hF5.below hBW hBW.size (fun k hk => by omega)) (Nat.le_trans hBW.size hF5.size) (fun k hk => by omega)
end Go.Proofs.YtahbnhhdpcieiaaGreatDoor
