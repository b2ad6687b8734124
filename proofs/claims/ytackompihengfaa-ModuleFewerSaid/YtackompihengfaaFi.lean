/-
  A module that the law's To has made: how it lies.
-/
import Derived.Test.YtackompihengfaaFg
namespace Go.Proofs.Ytackompihengfaa
open Go.RowKit
set_option linter.unusedVariables false
set_option linter.unusedSimpArgs false
/-- one element more: what append answers, and what it leaves -/
theorem app_at (B T E size bytes : Nat) (i : TypeInfo) (z : Value) (ht : Try.prog.underlying T = some (.slice E)) (hi : Try.prog.info? E = some i) (hz : i.zero = some z) (hsize : i.size = size) (hby : i.bytes = bytes) (hzs : z.cells.size = size) (hsz : 0 < size)
    (w : World) (v : Value) (n : Nat) (xs : List Value) (hown : w.ownsRow B E size v n xs) (cs : List Value) (hl : cs.length = size) (h1 : ∀ u ∈ cs, u.oneCell' = true)
    (hn : n ≤ 200000) (hb : bytes ≤ 64) (hB : B ≤ w.heap.size) :
    ∃ g cap w3, (∀ ty, (Builtin.append_ #[T, T] ty #[v, .slice (some ⟨w.heap.size, 0, none⟩) 1 1]).run Try.prog (w.alloc (Obj.cells cs.toArray E)) = .ok (.slice (some ⟨g, 0, none⟩) (n + 1) cap) w3) ∧
      w3.ownsRow B E size (.slice (some ⟨g, 0, none⟩) (n + 1) cap) (n + 1) (xs ++ cs) ∧ Fr (fun k => v.ownBlock = some k) w w3 := by
  have hw : (w.alloc (Obj.cells cs.toArray E)).ownsRow B E size v n xs := hown.alloc _
  obtain ⟨v1, w3, hap, hown3, hgr, _, _⟩ := run_append_own_at (P := Try.prog) (w.alloc (Obj.cells cs.toArray E)) B T T E i z size bytes ht hi hz hsize hby hzs hsz v n xs hw ⟨w.heap.size, 0, none⟩ 1 1 cs (by rw [hl, Nat.one_mul])
    (src1 w cs E) h1 (by unfold maxLen; omega) (by
        have : (n + 1) * bytes ≤ 200001 * 64 := Nat.mul_le_mul (by omega) hb
        omega) (by simp; omega)
  rcases hown3.2 with ⟨_, h0⟩ | ⟨g, cap, cur, e, _⟩
  · omega
  · subst e
    exact ⟨g, cap, w3, fun ty => hap, hown3, (((Fr.refl _ w)).alloc _).trans (Fr.grownV hgr)⟩
def sigC (SP SR : Nat → Value) (n : Nat) : List Value := (List.range n).flatMap fun i => [SP i, SR i]
theorem sigC_succ (SP SR : Nat → Value) (k : Nat) : sigC SP SR (k + 1) = sigC SP SR k ++ [SP k, SR k] := by simp [sigC, List.range_succ]
theorem sigC_congr {SP SR SP' SR' : Nat → Value} : ∀ {k : Nat}, (∀ i, i < k → SP i = SP' i ∧ SR i = SR' i) → sigC SP SR k = sigC SP' SR' k
  | 0, _ => rfl
  | k + 1, h => by rw [sigC_succ, sigC_succ, sigC_congr (fun i hi => h i (by omega)), (h k (by omega)).1, (h k (by omega)).2]
theorem sigC_len (SP SR : Nat → Value) : ∀ k, (sigC SP SR k).length = k * 2
  | 0 => rfl
  | k + 1 => by rw [sigC_succ, List.length_append, sigC_len SP SR k]; simp; omega
theorem sigC_get (SP SR : Nat → Value) : ∀ (k i q : Nat) (v : Value), i < k → [SP i, SR i][q]? = some v → (sigC SP SR k)[i * 2 + q]? = some v
  | k + 1, i, q, v, hi, hv => by
    have hq : q < 2 := by
      have := (List.getElem?_eq_some_iff.1 hv).1
      simpa using this
    rw [sigC_succ]
    by_cases e : i = k
    · subst e
      rw [List.getElem?_append_right (by rw [sigC_len]; omega), sigC_len, show i * 2 + q - i * 2 = q from by omega]
      exact hv
    · rw [List.getElem?_append_left (by rw [sigC_len]; omega)]
      exact sigC_get SP SR k i q v (by omega) hv
/-- signatures that the call has made -/
def SgM (w : World) (B : Nat) (v : Value) (n : Nat) (X : Nat → SigT) (SP SR : Nat → Value) : Prop :=
  w.ownsRow B 42 2 v n (sigC SP SR n) ∧ ∀ i, i < n → w.ownsRow B 76 1 (SP i) (X i).P.length ((X i).P.map U8) ∧ w.ownsRow B 76 1 (SR i) (X i).R.length ((X i).R.map U8)
theorem SgM.fr {S0 : Nat → Prop} {w w' : World} {B : Nat} {v : Value} {n : Nat} {X : Nat → SigT} {SP SR : Nat → Value} (h : SgM w B v n X SP SR) (hf : Fr S0 w w') (hne : ∀ k cs, S0 k → ¬ Blk w k 42 cs ∧ ¬ Blk w k 76 cs) : SgM w' B v n X SP SR := by
  refine ⟨own_fr h.1 hf (fun k hk hs => ?_), fun i hi => ⟨own_fr (h.2 i hi).1 hf (fun k hk hs => ?_), own_fr (h.2 i hi).2 hf (fun k hk hs => ?_)⟩⟩
  · obtain ⟨cs, hc⟩ := own_ty h.1 hk; exact (hne k cs hs).1 hc
  · obtain ⟨cs, hc⟩ := own_ty (h.2 i hi).1 hk; exact (hne k cs hs).2 hc
  · obtain ⟨cs, hc⟩ := own_ty (h.2 i hi).2 hk; exact (hne k cs hs).2 hc
theorem SgM.kept {w w' : World} {B : Nat} {v : Value} {n : Nat} {X : Nat → SigT} {SP SR : Nat → Value} (h : SgM w B v n X SP SR) (hb : Below w.heap.size w w') : SgM w' B v n X SP SR :=
  h.fr (Fr.of_below (S := fun _ => False) hb) (fun _ _ e => e.elim)
theorem SgM.snoc {w1 w6 : World} {B : Nat} {v v6 : Value} {k : Nat} {X : Nat → SigT} {SP SR : Nat → Value} {p r : Value} (h : SgM w1 B v k X SP SR) (hp : w1.ownsRow B 76 1 p (X k).P.length ((X k).P.map U8)) (hr : w1.ownsRow B 76 1 r (X k).R.length ((X k).R.map U8))
    (hf : Fr (fun g => v.ownBlock = some g) w1 w6) (ho : w6.ownsRow B 42 2 v6 (k + 1) (sigC SP SR k ++ [p, r])) : SgM w6 B v6 (k + 1) X (fun i => if i = k then p else SP i) (fun i => if i = k then r else SR i) := by
  have hne : ∀ g, v.ownBlock = some g → ∀ (u : Value) (n : Nat) xs, w1.ownsRow B 76 1 u n xs → u.ownBlock ≠ some g := fun g hg u n xs hu e => by
    obtain ⟨cs, hc⟩ := own_ty h.1 hg
    obtain ⟨cs2, hc2⟩ := own_ty hu e
    exact hc.ne_ hc2 (by decide) rfl
  refine ⟨?_, fun i hi => ?_⟩
  · rw [sigC_succ, sigC_congr (SP' := SP) (SR' := SR) (fun i hi => ⟨if_neg (by omega), if_neg (by omega)⟩), if_pos rfl, if_pos rfl]
    exact ho
  · by_cases e : i = k
    · subst e
      show w6.ownsRow B 76 1 (if i = i then p else SP i) _ _ ∧ w6.ownsRow B 76 1 (if i = i then r else SR i) _ _
      rw [if_pos rfl, if_pos rfl]
      exact ⟨own_fr hp hf (fun g hg q => hne g q _ _ _ hp hg), own_fr hr hf (fun g hg q => hne g q _ _ _ hr hg)⟩
    · show w6.ownsRow B 76 1 (if i = k then p else SP i) _ _ ∧ w6.ownsRow B 76 1 (if i = k then r else SR i) _ _
      rw [if_neg e, if_neg e]
      have := h.2 i (by omega)
      exact ⟨own_fr this.1 hf (fun g hg q => hne g q _ _ _ this.1 hg), own_fr this.2 hf (fun g hg q => hne g q _ _ _ this.2 hg)⟩
def funC (X : Nat → FunT) (LV IV : Nat → Value) (n : Nat) : List Value := (List.range n).flatMap fun i => [.int .i64 (X i).sg, LV i, IV i]
theorem funC_succ (X : Nat → FunT) (LV IV : Nat → Value) (k : Nat) : funC X LV IV (k + 1) = funC X LV IV k ++ [.int .i64 (X k).sg, LV k, IV k] := by simp [funC, List.range_succ]
theorem funC_congr {X : Nat → FunT} {LV IV LV' IV' : Nat → Value} : ∀ {k : Nat}, (∀ i, i < k → LV i = LV' i ∧ IV i = IV' i) → funC X LV IV k = funC X LV' IV' k
  | 0, _ => rfl
  | k + 1, h => by rw [funC_succ, funC_succ, funC_congr (fun i hi => h i (by omega)), (h k (by omega)).1, (h k (by omega)).2]
theorem funC_len (X : Nat → FunT) (LV IV : Nat → Value) : ∀ k, (funC X LV IV k).length = k * 3
  | 0 => rfl
  | k + 1 => by rw [funC_succ, List.length_append, funC_len X LV IV k]; simp; omega
theorem funC_get (X : Nat → FunT) (LV IV : Nat → Value) : ∀ (k i q : Nat) (v : Value), i < k → [Value.int .i64 (X i).sg, LV i, IV i][q]? = some v → (funC X LV IV k)[i * 3 + q]? = some v
  | k + 1, i, q, v, hi, hv => by
    have hq : q < 3 := by
      have := (List.getElem?_eq_some_iff.1 hv).1
      simpa using this
    rw [funC_succ]
    by_cases e : i = k
    · subst e
      rw [List.getElem?_append_right (by rw [funC_len]; omega), funC_len, show i * 3 + q - i * 3 = q from by omega]
      exact hv
    · rw [List.getElem?_append_left (by rw [funC_len]; omega)]
      exact funC_get X LV IV k i q v (by omega) hv
/-- functions that the call has made -/
def FnM (w : World) (B : Nat) (v : Value) (n : Nat) (X : Nat → FunT) (LV IV : Nat → Value) (S : Nat → Nat → Value) : Prop :=
  w.ownsRow B 69 3 v n (funC X LV IV n) ∧ ∀ i, i < n → w.ownsRow B 76 1 (LV i) (X i).lc.length ((X i).lc.map U8) ∧ Made w B (IV i) (X i).m (X i).X (S i)
theorem FnM.fr {S0 : Nat → Prop} {w w' : World} {B : Nat} {v : Value} {n : Nat} {X : Nat → FunT} {LV IV : Nat → Value} {S : Nat → Nat → Value} (h : FnM w B v n X LV IV S) (hf : Fr S0 w w') (hne : ∀ k cs, S0 k → ¬ Blk w k 69 cs ∧ ¬ Blk w k 76 cs ∧ ¬ Blk w k 104 cs ∧ ¬ Blk w k 77 cs) : FnM w' B v n X LV IV S := by
  refine ⟨own_fr h.1 hf (fun k hk hs => ?_), fun i hi => ⟨own_fr (h.2 i hi).1 hf (fun k hk hs => ?_), (h.2 i hi).2.fr hf (fun k cs hs => (hne k cs hs).2.2)⟩⟩
  · obtain ⟨cs, hc⟩ := own_ty h.1 hk; exact (hne k cs hs).1 hc
  · obtain ⟨cs, hc⟩ := own_ty (h.2 i hi).1 hk; exact (hne k cs hs).2.1 hc
theorem FnM.kept {w w' : World} {B : Nat} {v : Value} {n : Nat} {X : Nat → FunT} {LV IV : Nat → Value} {S : Nat → Nat → Value} (h : FnM w B v n X LV IV S) (hb : Below w.heap.size w w') : FnM w' B v n X LV IV S :=
  h.fr (Fr.of_below (S := fun _ => False) hb) (fun _ _ e => e.elim)
theorem FnM.snoc {w1 w6 : World} {B : Nat} {v v6 : Value} {k : Nat} {X : Nat → FunT} {LV IV : Nat → Value} {S : Nat → Nat → Value} {lv iv : Value} {s : Nat → Value} (h : FnM w1 B v k X LV IV S) (hl : w1.ownsRow B 76 1 lv (X k).lc.length ((X k).lc.map U8)) (hm : Made w1 B iv (X k).m (X k).X s)
    (hf : Fr (fun g => v.ownBlock = some g) w1 w6) (ho : w6.ownsRow B 69 3 v6 (k + 1) (funC X LV IV k ++ [.int .i64 (X k).sg, lv, iv])) : FnM w6 B v6 (k + 1) X (fun i => if i = k then lv else LV i) (fun i => if i = k then iv else IV i) (fun i => if i = k then s else S i) := by
  have hty : ∀ g cs, v.ownBlock = some g → ∀ E, E ≠ 69 → ¬ Blk w1 g E cs := fun g cs hg E hE hc => by
    obtain ⟨cs2, hc2⟩ := own_ty h.1 hg
    exact hc.ne_ hc2 hE rfl
  have h76 : ∀ u n xs, w1.ownsRow B 76 1 u n xs → w6.ownsRow B 76 1 u n xs := fun u n xs hu => own_fr hu hf (fun g hg q => by
    obtain ⟨cs, hc⟩ := own_ty hu hg
    exact hty g cs q 76 (by decide) hc)
  have hmd : ∀ u n Y s, Made w1 B u n Y s → Made w6 B u n Y s := fun u n Y s hu => hu.fr hf (fun g cs q => ⟨hty g cs q 104 (by decide), hty g cs q 77 (by decide)⟩)
  refine ⟨?_, fun i hi => ?_⟩
  · rw [funC_succ, funC_congr (LV' := LV) (IV' := IV) (fun i hi => ⟨if_neg (by omega), if_neg (by omega)⟩), if_pos rfl, if_pos rfl]
    exact ho
  · by_cases e : i = k
    · subst e
      show w6.ownsRow B 76 1 (if i = i then lv else LV i) _ _ ∧ Made w6 B (if i = i then iv else IV i) _ _ (if i = i then s else S i)
      rw [if_pos rfl, if_pos rfl, if_pos rfl]
      exact ⟨h76 _ _ _ hl, hmd _ _ _ _ hm⟩
    · show w6.ownsRow B 76 1 (if i = k then lv else LV i) _ _ ∧ Made w6 B (if i = k then iv else IV i) _ _ (if i = k then s else S i)
      rw [if_neg e, if_neg e, if_neg e]
      have := h.2 i (by omega)
      exact ⟨h76 _ _ _ this.1, hmd _ _ _ _ this.2⟩
theorem info42 : (Try.prog.info? 42).map (fun i => (i.zero, i.size, i.bytes)) = some (some (.agg #[.slice none 0 0, .slice none 0 0]), 2, 48) := by kernel_rfl
theorem info69 : (Try.prog.info? 69).map (fun i => (i.zero, i.size, i.bytes)) = some (some (.agg #[.int .i64 0, .slice none 0 0, .slice none 0 0]), 3, 56) := by kernel_rfl
/-- a module that the call has made, in block g -/
structure MdAt (w : World) (B g : Nat) (x : Mt) (sv fv : Value) (SP SR LV IV : Nat → Value) (S : Nat → Nat → Value) : Prop where
  blk : Blk w g 73 #[sv, x.s1.v, fv, .int .i64 x.tab, x.s4.v, x.s5.v, x.s6.v, .int .i64 x.start, x.s8.v, x.s9.v]
  hb : B ≤ g
  sg : SgM w B sv x.s0.n x.X0 SP SR
  fn : FnM w B fv x.s2.n x.X2 LV IV S
theorem MdAt.kept {w w' : World} {B g : Nat} {x : Mt} {sv fv : Value} {SP SR LV IV : Nat → Value} {S : Nat → Nat → Value} (h : MdAt w B g x sv fv SP SR LV IV S) (hb : Below w.heap.size w w') : MdAt w' B g x sv fv SP SR LV IV S :=
  ⟨h.blk.below hb h.blk.lt, h.hb, h.sg.kept hb, h.fn.kept hb⟩
end Go.Proofs.Ytackompihengfaa
