/-
  Find.
-/
import Derived.Test.YtackompihengfaaGc
namespace Go.Proofs.Ytackompihengfaa
open Go.RowKit Go.PlainAid
set_option linter.unusedVariables false
set_option linter.unusedSimpArgs false
theorem exF_lt {X : Nat → ExT} {s : ByteArray} : ∀ {m j k : Nat}, exF X s m j = some k → j ≤ k ∧ k < j + m ∧ (X k).nm = s ∧ ∀ i, j ≤ i → i < k → (X i).nm ≠ s
  | 0, j, k, h => by cases h
  | m + 1, j, k, h => by
    unfold exF at h
    by_cases e : (X j).nm = s
    · rw [if_pos e] at h
      cases h
      exact ⟨Nat.le_refl _, by omega, e, fun i h1 h2 => by omega⟩
    · rw [if_neg e] at h
      obtain ⟨h1, h2, h3, h4⟩ := exF_lt h
      refine ⟨by omega, by omega, h3, fun i h5 h6 => ?_⟩
      by_cases e2 : i = j
      · subst e2; exact e
      · exact h4 i (by omega) h6
theorem exF_no {X : Nat → ExT} {s : ByteArray} : ∀ {m j : Nat}, exF X s m j = none → ∀ i, j ≤ i → i < j + m → (X i).nm ≠ s
  | 0, j, h => fun i h1 h2 => by omega
  | m + 1, j, h => fun i h1 h2 => by
    unfold exF at h
    by_cases e : (X j).nm = s
    · rw [if_pos e] at h; cases h
    · rw [if_neg e] at h
      by_cases e2 : i = j
      · subst e2; exact e
      · exact exF_no h i (by omega) (by omega)
theorem wpList_store53 {ops : Array Oper} {rest : List Oper} {o : Oper} {a : Act} {w : World} {Q : Exit → Act → World → Prop} (hgd : o.guard = none) (x y : Operand) (ho : o.op = .store 53 x y)
    (g : Nat) (old : Array Value) (nm : ByteArray) (kd ix : Int) (hx : a.eval x = .pointer (some ⟨g, 0, none⟩)) (hy : a.eval y = .agg #[.string nm, .int .i64 kd, .int .i64 ix])
    (hg : Blk w g 53 old) (hold : Hid (old.size = 3))
    (h : wpList Try.prog ops Q rest (a.put o.dst undef) (w.setRow g #[.string nm, .int .i64 kd, .int .i64 ix])) : wpList Try.prog ops Q (o :: rest) a w :=
  wpList_store_row hgd 53 x y ho g _ hx hy 53 old hg (by kernel_rfl) (by rw [hold.out]; rfl) (by simp [Value.oneCell']) h
/-- what Find answers -/
def fdv (X : Nat → ExT) : Option Nat → Value
  | some k => .tuple #[ExC (X k), .bool true]
  | none => .tuple #[.agg #[.string ⟨#[]⟩, .int .i64 0, .int .i64 0], .bool false]
set_option maxHeartbeats 4000000 in
set_option maxRecDepth 100000 in
theorem Find_ok (g : Nat) (cs : Array Value) (A : Option Addr) (n c : Nat) (X : Nat → ExT) (s : ByteArray) (hn : n ≤ 1000) (hc6 : cs[6]? = some (.slice A n c)) (w : World) (hm : Blk w g 73 cs) (hr : Row 3 ExAt w A n c X) :
    Calls Try.prog 19 #[.pointer (some ⟨g, 0, none⟩), .string s] w fun e w' => e = .returned (fdv X (exF X s n 0)) ∧ Below w.heap.size w w' := by
  have hb1 : Below w.heap.size w ((w.alloc (.cells #[.string s] 9)).alloc (.cells #[.string ⟨#[]⟩, .int .i64 0, .int .i64 0] 53)) := ((Below.refl w.heap.size w).alloc (Nat.le_refl _) _).alloc (by simp) _
  obtain ⟨W1, hW1⟩ : ∃ W, W = (w.alloc (.cells #[.string s] 9)).alloc (.cells #[.string ⟨#[]⟩, .int .i64 0, .int .i64 0] 53) := ⟨_, rfl⟩
  rw [← hW1] at hb1
  have hsc : W1.cell? ⟨w.heap.size, 0, none⟩ = some (.string s) := by rw [hW1]; exact ((Blk.new w 9 #[.string s]).alloc _).cell 0
  have hrb : Blk W1 (w.heap.size + 1) 53 #[.string ⟨#[]⟩, .int .i64 0, .int .i64 0] := by
    rw [hW1]
    have := Blk.new (w.alloc (.cells #[.string s] 9)) 53 #[.string ⟨#[]⟩, .int .i64 0, .int .i64 0]
    rw [World.size_alloc] at this
    exact this
  have hl1 : w.heap.size < W1.heap.size := by have := hrb.lt; omega
  have HI := Lib.hid (indexFunc_ok A n c X s w.heap.size hn W1 (hr.below ex_stay hb1) hsc hl1)
  have x6 : W1.cell? ⟨g, 6, none⟩ = some (.slice A n c) := ((hm.below hb1 hm.lt).cell 6).trans hc6
  have HM := Lib.hid (hm.below hb1 hm.lt)
  have HR := Lib.hid (hr.below ex_stay hb1)
  have HB1 := Lib.hid hb1
  have HRB := Lib.hid hrb
  have HC6 := Lib.hid hc6
  have HW1 := Lib.hid hW1
  have hcm := hr.2.1
  have hcn := hr.1
  unfold maxLen at hcm
  clear hm hr hb1 hrb hsc hW1 hl1 hc6
  cases hx : exF X s n 0 with
  | none =>
    rw [hx] at HI
    go_enter Try.func19, Try.ntmps19
    go_upto_region 1 with fail
    rw [← HW1.out]
    go_wp2_with (first
      | (go_at_call 31; (with_reducible refine HI.out.mono ?_); rintro e w2 ⟨rfl, hb⟩
         unfold ixv
         have HB2 : Hid (Below w.heap.size w w2) := Lib.hid (HB1.out.trans (hb.mono HB1.out.size))
         have HRB2 := Lib.hid (HRB.out.below hb HRB.out.lt)
         clear hb)
      | (with_reducible refine wpList_store53 rfl (.tmp 4) (.tmp 18) rfl (w.heap.size + 1) _ _ _ _ rfl rfl HRB2.out (Lib.hid rfl) ?_))
    refine bodyPost_ret (v := _) (res_cell results19 _ _ (w.heap.size + 1) 53 _ _ rfl (setRow_heap w2 (w.heap.size + 1) _ _ 53 (0, 0) HRB2.out) Try.underlying53 rfl (by kernel_rfl)) rfl ?_
    exact ⟨rfl, below_setRow HB2.out (by omega) _⟩
  | some k =>
    rw [hx] at HI
    obtain ⟨_, hk, _, _⟩ := exF_lt hx
    rw [Nat.zero_add] at hk
    obtain ⟨b, off, rfl, hbl, hat⟩ := HR.out.2.2 (by omega)
    have HAT := Lib.hid (hat k hk)
    have HBL := Lib.hid hbl
    clear hat hx hbl
    show Calls _ _ _ _ fun e w' => e = .returned (.tuple #[.agg #[.string (X k).nm, .int .i64 (X k).kd, .int .i64 (X k).ix], .bool true]) ∧ Below w.heap.size w w'
    generalize X k = x at HAT ⊢
    obtain ⟨nm, kd, ix⟩ := x
    dsimp only
    go_enter Try.func19, Try.ntmps19
    go_upto_region 1 with fail
    rw [← HW1.out]
    go_wp2_with (first
      | (go_at_call 31; (with_reducible refine HI.out.mono ?_); rintro e w2 ⟨rfl, hb⟩
         unfold ixv
         have HB2 : Hid (Below w.heap.size w w2) := Lib.hid (HB1.out.trans (hb.mono HB1.out.size))
         have HRB2 := Lib.hid (HRB.out.below hb HRB.out.lt)
         obtain ⟨y0, y1, y2⟩ := ex_stay _ _ _ _ _ HAT.out hb HBL.out
         have x6' := ((HM.out.below hb HM.out.lt).cell 6).trans HC6.out
         clear hb)
      | (with_reducible refine wpList_store53 rfl (.tmp 4) (.tmp 25) rfl (w.heap.size + 1) _ _ _ _ rfl rfl HRB2.out (Lib.hid rfl) ?_))
    refine bodyPost_ret (v := _) (res_cell results19 _ _ (w.heap.size + 1) 53 _ _ rfl (setRow_heap w2 (w.heap.size + 1) _ _ 53 (0, 0) HRB2.out) Try.underlying53 rfl (by kernel_rfl)) rfl ?_
    exact ⟨rfl, below_setRow HB2.out (by omega) _⟩
end Go.Proofs.Ytackompihengfaa
