/-
  A function's number of its signature; a list of types cloned.
-/
import Derived.Test.YtackompihengfaaGd
import Derived.Test.YtackompihengfaaFi
import Derived.WalkLawsBesides
namespace Go.Proofs.Ytackompihengfaa
open Go.RowKit Go.PlainAid
set_option linter.unusedVariables false
set_option linter.unusedSimpArgs false
/-- a function's signature's number, as told -/
def sgOf (x : Mt) (f : Nat) : Int := if f < x.s1.n then (x.X1 f).sg else (x.X2 (f - x.s1.n)).sg
set_option maxHeartbeats 4000000 in
set_option maxRecDepth 100000 in
theorem number_ok (x : Mt) (B g : Nat) (sv fv : Value) (SP SR LV IV : Nat → Value) (S : Nat → Nat → Value) (f : Nat) (w : World) (hx : MtAt w x) (hm : MdAt w B g x sv fv SP SR LV IV S) (hf : f < x.s1.n + x.s2.n) (h1 : x.s1.n ≤ 1000) (h2 : x.s2.n ≤ 1000) :
    Calls Try.prog 28 #[.pointer (some ⟨g, 0, none⟩), .int .i64 (f : Nat)] w fun e w' => e = .returned (.int .i64 (sgOf x f)) ∧ Below w.heap.size w w' := by
  obtain ⟨Af, cf, rfl⟩ := own_slice hm.fn.1
  have y1 : ∀ q, (w.drewN q).cell? ⟨g, 1, none⟩ = some (.slice x.s1.A x.s1.n x.s1.c) := fun q => hm.blk.cell 1
  have y2 : ∀ q, (w.drewN q).cell? ⟨g, 2, none⟩ = some (.slice Af x.s2.n cf) := fun q => hm.blk.cell 2
  have a1 := hx.r1.1
  have a2 := hx.r1.2.1
  unfold maxLen at a2
  by_cases hlt : f < x.s1.n
  · obtain ⟨b, off, hA, hbl, hat⟩ := hx.r1.2.2 (by omega)
    have z2 : w.cell? ⟨b, off + f * 3 + 2, none⟩ = some (.int .i64 (x.X1 f).sg) := (hat f hlt).2.2
    have y1' := y1 0
    have e : sgOf x f = (x.X1 f).sg := by unfold sgOf; rw [if_pos hlt]
    rw [e]
    rw [hA] at y1'
    have y10 : w.cell? ⟨g, 1, none⟩ = some (.slice (some ⟨b, off, none⟩) x.s1.n x.s1.c) := y1'
    clear hat y1 y1' y2 hm hx e hA
    generalize (x.X1 f).sg = sg at z2
    generalize x.s1.n = n1 at *
    generalize x.s1.c = c1 at *
    go_enter Try.func28, Try.ntmps28
    go_wp2
    go_ret
    exact ⟨rfl, Below.refl _ _⟩
  · have hk : f - x.s1.n < x.s2.n := by omega
    obtain ⟨gf, cp, e4, h5, h6⟩ := own_some hm.fn.1 (by omega)
    cases e4
    unfold maxLen at h6
    have z0 : ∀ q, (w.drewN q).cell? ⟨gf, (f - x.s1.n) * 3, none⟩ = some (.int .i64 (x.X2 (f - x.s1.n)).sg) := fun q => by
      have h := hm.fn.1.cellAt ((f - x.s1.n) * 3) (by omega)
      have h9 := funC_get x.X2 LV IV x.s2.n (f - x.s1.n) 0 _ hk rfl
      rw [Nat.add_zero] at h9
      rw [h9] at h
      exact h
    have e : sgOf x f = (x.X2 (f - x.s1.n)).sg := by unfold sgOf; rw [if_neg hlt]
    rw [e]
    obtain ⟨k, hke⟩ : ∃ k, k = f - x.s1.n := ⟨_, rfl⟩
    rw [← hke] at z0 hk ⊢
    have hke2 : (f : Int) - (x.s1.n : Int) = (k : Int) := by omega
    have y10 := y1 0
    have y10 : w.cell? ⟨g, 1, none⟩ = some (.slice x.s1.A x.s1.n x.s1.c) := y10
    clear hm hx e hke
    generalize (x.X2 k).sg = sg at z0
    generalize x.s1.n = n1 at *
    generalize x.s1.c = c1 at *
    generalize x.s1.A = A1 at *
    generalize x.s2.n = n2 at *
    go_enter Try.func28, Try.ntmps28
    go_wp2_with fail
    go_quiet (fail)
    go_wp2
    go_ret
    exact ⟨rfl, below_drewN (Below.refl _ _) _⟩
/-- a list of types cloned -/
def ClP (l : List Nat) (w : World) (e : Ending) (w' : World) : Prop := Below w.heap.size w w' ∧ ∃ B d, e = .returned (.slice B l.length d) ∧ w'.ownsRow w.heap.size 76 1 (.slice B l.length d) l.length (l.map U8)
set_option maxHeartbeats 4000000 in
set_option maxRecDepth 100000 in
theorem Clone_ok (B0 : Nat) (A : Option Addr) (n c : Nat) (l : List Nat) (w : World) (h : w.ownsRow B0 76 1 (.slice A n c) n (l.map U8)) (hn : n ≤ 1000) :
    Calls Try.prog 29 #[.slice A n c] w (ClP l w) := by
  obtain ⟨i0, hi, hz0, hz1, hz2⟩ := info_parts info76
  have hl : n = l.length := by have := h.1; rw [List.length_map] at this; omega
  rcases h.2 with ⟨e, h0⟩ | ⟨g, cap, cur, e, hB, hg, hnc, hcm, _⟩
  · cases e
    have hl0 : l = [] := List.eq_nil_of_length_eq_zero (by omega)
    subst hl0
    clear h hl hn hi hz0 hz1 hz2
    have hq : (binOp .eql 40 (.slice none 0 0) (.slice none 0 0)).run Try.prog w = .ok (.bool true) w := by kernel_rfl
    go_enter Try.func29, Try.ntmps29
    go_wp2
    go_ret
    exact ⟨Below.refl _ _, none, 0, rfl, World.ownsRow_nil _ _ _ _⟩
  · cases e
    have hlt : g < w.heap.size := Blk.lt (t := 76) (cs := cur) hg
    have HN : Hid (∀ j u, (l.map U8)[j]? = some u → (w.alloc (.cells #[] 76)).cell? ((⟨g, 0, none⟩ : Addr).add j) = some u) := Lib.hid (fun j u hu => by
      have hj : j < n := by have := (List.getElem?_eq_some_iff.1 hu).1; rw [List.length_map] at this; omega
      have e : (⟨g, 0, none⟩ : Addr).add j = ⟨g, j, none⟩ := by cases j <;> simp [Addr.add]
      rw [e, (((Below.refl w.heap.size w).alloc (Nat.le_refl _) _).cell (p := ⟨g, j, none⟩) hlt), h.cellAt j (by omega)]
      exact hu)
    have HL := Lib.hid hl
    have HO : Hid (∀ u ∈ l.map U8, u.oneCell' = true) := Lib.hid (fun u hu => by
      rw [List.mem_map] at hu
      obtain ⟨_, _, rfl⟩ := hu
      rfl)
    clear h hg hl
    have hq : (binOp .eql 40 (.slice (some ⟨g, 0, none⟩) n c) (.slice none 0 0)).run Try.prog w = .ok (.bool false) w := by kernel_rfl
    go_enter Try.func29, Try.ntmps29
    go_wp2_with (at_builtin
                 refine wpList_append_own _ rfl (.tmp 5) (.tmp 6) 40 rfl w.heap.size 76 i0 _ 1 1 Try.underlying40 hi hz0 hz1 hz2 rfl (by decide) _ 0 [] rfl (own_empty w 76 1 w.heap.size (Nat.le_refl _)) ⟨g, 0, none⟩ n c (l.map U8) rfl (by rw [List.length_map, HL.out, Nat.mul_one]) HN.out HO.out ?a2 ?a3 ?a4 ?_
                 case a2 => unfold maxLen; omega
                 case a3 => omega
                 case a4 => simp
                 intro v6 w6 hown6 hg6 _
                 have hf6 : Fr (fun q => some w.heap.size = some q) (w.alloc (.cells #[] 76)) w6 := Fr.grownV hg6
                 have HB6 : Hid (Below w.heap.size w w6) := Lib.hid (hf6.below ((Below.refl _ _).alloc (Nat.le_refl _) _) (by simp) (fun q hq => by injection hq with hq; exact Nat.le_of_eq hq))
                 have HO6 : Hid (w6.ownsRow w.heap.size 76 1 v6 (0 + n) ([] ++ l.map U8)) := Lib.hid hown6
                 clear hown6 hg6 hf6)
    go_ret
    have h9 := HO6.out
    rw [Nat.zero_add, List.nil_append, HL.out] at h9
    obtain ⟨B, d, rfl⟩ := own_slice h9
    exact ⟨HB6.out, B, d, rfl, h9⟩
end Go.Proofs.Ytackompihengfaa
