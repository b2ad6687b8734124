/-
  A map that is keyed by pages (pairs of numbers), told as a function; and the operations on it.
-/
import Derived.Test.YtlnffcledpccjaaAh
import Derived.DeepKeys4
import Derived.Maps.RangeWalk
namespace Go.Proofs.Ytlnffcledpccjaa
open Go.Maps (Keyed)
open Go.RowKit
set_option linter.unusedVariables false
theorem row80 : (104 : TypeId) < Try.prog.types.size := of_decide_eq_true (by kernel_rfl)
theorem cells80 : Try.prog.cellsOf 104 = 2 := by kernel_rfl
theorem cells3 : Try.prog.cellsOf 3 = 1 := by kernel_rfl
set_option maxRecDepth 100000 in
theorem kt80 : Try.prog.keyType 104 = true := by kernel_rfl
set_option maxRecDepth 100000 in
theorem wide80 : (match Try.prog.underlying 104 with | some (.array _ _) | some (.struct _) => true | _ => false) = true := by rw [Try.underlying104]
set_option maxRecDepth 100000 in
theorem law80 : Keyed Try.prog 104 := Keyed.of_law (deep_law_laid Try.laidOut (m := 2) (by omega) row80 (by kernel_rfl) wide80)
set_option maxRecDepth 100000 in
theorem keyLits80 (m : Nat) (c0 c1 : Value) : Try.prog.keyLits (m + 1) 104 [c0, c1] = ((Try.prog.keyLits m 3 [c0]).bind fun a => (Try.prog.keyLits m 3 [c1]).bind fun b => some (a ++ b)) := by
  conv => lhs; unfold Program.keyLits
  rw [Try.underlying104]
  simp [cells80, cells3]
  cases Try.prog.keyLits m 3 [c0] <;> cases Try.prog.keyLits m 3 [c1] <;> simp
set_option maxRecDepth 100000 in
theorem keyLits3 (m : Nat) (c : Value) (ls : List Lit) (hc : Try.prog.keyLits (m + 1) 3 [c] = some ls) : ∃ a, c = .int .i64 a ∧ (Lit.int .i64 a).wf = true := by
  unfold Program.keyLits at hc
  rw [Try.underlying3] at hc
  cases c <;> simp at hc
  obtain ⟨⟨rfl, h1⟩, _⟩ := hc
  exact ⟨_, rfl, h1⟩
def pv (x : Int × Int) : Value := .agg #[.int .i64 x.1, .int .i64 x.2]
def pl (x : Int × Int) : Lit := .string (keyBytes [.int .i64 x.1, .int .i64 x.2])
def pwf (x : Int × Int) : Prop := (Lit.int .i64 x.1).wf = true ∧ (Lit.int .i64 x.2).wf = true
set_option maxRecDepth 100000 in
theorem keyOf_pv {x : Int × Int} (h : pwf x) : keyOf Try.prog 104 (pv x) = some (pl x) := by
  have hf : (pv x).formed Try.prog 104 = true := by simp [pv, Value.formed, Try.underlying104, cells80]
  obtain ⟨m, hm⟩ : ∃ m, Try.prog.types.size = m + 1 := ⟨Try.prog.types.size - 1, by have h : (104 : Nat) < Try.prog.types.size := row80; omega⟩
  have hl : Try.prog.keyLits (Try.prog.types.size + 1) 104 (pv x).cells.toList = some [.int .i64 x.1, .int .i64 x.2] := by
    rw [hm]
    simp [Program.keyLits, Try.underlying104, Try.underlying3, cells80, cells3, pv, Value.cells, h.1, h.2]
  unfold keyOf
  rw [Try.underlying104]
  simp only [kt80, hf, Bool.and_self, if_true, hl]
  rfl
set_option maxRecDepth 100000 in
theorem keyOf_inv {v : Value} {l : Lit} (h : keyOf Try.prog 104 v = some l) : ∃ x, pwf x ∧ v = pv x := by
  obtain ⟨m, hm⟩ : ∃ m, Try.prog.types.size = m + 1 := ⟨Try.prog.types.size - 1, by have h : (104 : Nat) < Try.prog.types.size := row80; omega⟩
  unfold keyOf at h
  rw [Try.underlying104] at h
  simp only [kt80, Bool.true_and] at h
  split at h
  · rename_i hf
    rw [hm] at h
    cases v <;> simp [Value.formed, Try.underlying104] at hf
    rename_i cs
    rw [cells80] at hf
    obtain ⟨l⟩ := cs
    match l, hf with
    | [c0, c1], _ =>
      have hk : (Value.agg { toList := [c0, c1] }).cells.toList = [c0, c1] := rfl
      rw [hk, keyLits80] at h
      cases e0 : Try.prog.keyLits (m + 1) 3 [c0] with
      | none => rw [e0] at h; simp at h
      | some l0 =>
        cases e1 : Try.prog.keyLits (m + 1) 3 [c1] with
        | none => rw [e0, e1] at h; simp at h
        | some l1 =>
          obtain ⟨a, rfl, ha⟩ := keyLits3 _ _ _ e0
          obtain ⟨b, rfl, hb⟩ := keyLits3 _ _ _ e1
          exact ⟨(a, b), ⟨ha, hb⟩, rfl⟩
  · cases h
theorem pv_inj {x y : Int × Int} (h : pv x = pv y) : x = y := by
  unfold pv at h
  simp at h
  exact Prod.ext h.1 h.2
theorem pl_inj {x y : Int × Int} (hx : pwf x) (hy : pwf y) (h : pl x = pl y) : x = y :=
  pv_inj (law80.inj (keyOf_pv hx) (by rw [h]; exact keyOf_pv hy))
theorem isKey_pl {x : Int × Int} (hx : pwf x) : WideAt.IsKeyLit (pl x) := law80.key (keyOf_pv hx)
/-- pages whose numbers are ints -/
def small (x : Nat × Nat) : Prop := x.1 ≤ 9223372036854775807 ∧ x.2 ≤ 9223372036854775807
def cs2 (x : Nat × Nat) : Int × Int := ((x.1 : Int), (x.2 : Int))
theorem pwf_small {x : Nat × Nat} (h : small x) : pwf (cs2 x) := ⟨WalkArith.wf_i64 (by unfold cs2; have := h.1; simp only; omega), WalkArith.wf_i64 (by unfold cs2; have := h.2; simp only; omega)⟩
theorem cs2_inj {x y : Nat × Nat} (h : cs2 x = cs2 y) : x = y := by
  unfold cs2 at h
  simp only [Prod.mk.injEq] at h
  exact Prod.ext (by omega) (by omega)
theorem pwf_nat {x : Int × Int} (h : pwf x) (h1 : 0 ≤ x.1) (h2 : 0 ≤ x.2) : ∃ y, small y ∧ x = cs2 y := by
  obtain ⟨a, ha⟩ := Int.eq_ofNat_of_zero_le h1
  obtain ⟨b, hb⟩ := Int.eq_ofNat_of_zero_le h2
  have b1 := bounds_i64 h.1
  have b2 := bounds_i64 h.2
  exact ⟨(a, b), ⟨by simp only; omega, by simp only; omega⟩, Prod.ext ha hb⟩
def pget (f : Nat × Nat → Option Nat) (x : Int × Int) : Option Value := if 0 ≤ x.1 ∧ 0 ≤ x.2 then (f (x.1.toNat, x.2.toNat)).map I64 else none
theorem pget_nat (f : Nat × Nat → Option Nat) (x : Nat × Nat) : pget f (cs2 x) = (f x).map I64 := by
  unfold pget cs2
  rw [if_pos ⟨Int.natCast_nonneg _, Int.natCast_nonneg _⟩]
  rfl
/-- block b is a map that is keyed by pages and has n entries: f -/
def PM (w : World) (b n : Nat) (f : Nat × Nat → Option Nat) : Prop :=
  ∃ (D : DataW Value) (K : List (Nat × Nat)), w.ownsMap Try.prog 104 asis b n D ∧ Maps.size D = n ∧ (∀ x, pwf x → ∀ zd, D.atKey (pl x) zd = ((pget f x).map DataW.held).getD zd) ∧ K.Nodup ∧ K.length = n ∧ (∀ x, x ∈ K ↔ f x ≠ none) ∧ ∀ x ∈ K, small x
section
variable {w w' : World} {b n : Nat} {f : Nat × Nat → Option Nat}
theorem PM.lt (h : PM w b n f) : b < w.heap.size := by
  obtain ⟨D, K, h, _⟩ := h
  exact h.lt
theorem PM.same (h : PM w b n f) (hb : w'.heap[b]? = w.heap[b]?) : PM w' b n f := by
  obtain ⟨D, K, ⟨es, clock, h1, h2⟩, h3⟩ := h
  exact ⟨D, K, ⟨es, clock, hb.trans h1, h2⟩, h3⟩
theorem PM.alloc (h : PM w b n f) (o : Obj) : PM (w.alloc o) b n f := h.same (Below.heap_alloc w o b h.lt)
theorem PM.drewN (h : PM w b n f) (m : Nat) : PM (w.drewN m) b n f := h
theorem PM.far (h : PM w b n f) {p : Addr} (hp : b ≠ p.block) (u : Value) : PM (w.setCell p u) b n f := h.same (Below.heap_setCell w p u b hp)
theorem PM.fr {S : Nat → Prop} (h : PM w b n f) (hf : Fr S w w') (hs : ¬ S b) : PM w' b n f := h.same (hf.block b h.lt hs)
theorem PM.below {B : Nat} (h : PM w b n f) (hb : Below B w w') (hg : b < B) : PM w' b n f := h.same (hb.block b hg)
theorem PM.ne_ {g : Nat} {t' : TypeId} {cs : Array Value} (h : PM w b n f) (h' : Blk w g t' cs) : b ≠ g := by
  rintro rfl
  obtain ⟨D, K, ⟨es, clock, h1, _⟩, _⟩ := h
  unfold Blk at h'
  rw [h1] at h'
  cases h'
theorem PM.made (w : World) : PM (w.alloc (.map #[] 0)) w.heap.size 0 (fun _ => none) :=
  ⟨.map [], [], World.ownsMap_made w Try.prog 104 asis, rfl, fun x _ zd => by unfold pget; split <;> rfl, List.nodup_nil, rfl, fun x => by simp, fun x h => by cases h⟩
theorem PM.small (h : PM w b n f) {x : Nat × Nat} (hx : f x ≠ none) : small x := by
  obtain ⟨D, K, _, _, _, _, _, h1, h2⟩ := h
  exact h2 x ((h1 x).2 hx)
theorem nodup_le : ∀ (K W : List (Nat × Nat)), K.Nodup → (∀ x ∈ K, x ∈ W) → K.length ≤ W.length := by
  intro K
  induction K with
  | nil => intro W _ _; exact Nat.zero_le _
  | cons x K ih =>
    intro W hn hs
    obtain ⟨h1, h2⟩ := List.nodup_cons.1 hn
    have hx : x ∈ W := hs x (by simp)
    have := ih (W.erase x) h2 (fun y hy => by
      have hyx : y ≠ x := fun e => h1 (e ▸ hy)
      exact (List.mem_erase_of_ne hyx).2 (hs y (by simp [hy])))
    rw [List.length_erase_of_mem hx] at this
    have := List.length_pos_of_mem hx
    simp only [List.length_cons]
    omega
theorem PM.count_le (h : PM w b n f) (W : List (Nat × Nat)) (hW : ∀ x, f x ≠ none → x ∈ W) : n ≤ W.length := by
  obtain ⟨D, K, _, _, _, h1, rfl, h2, _⟩ := h
  exact nodup_le K W h1 (fun x hx => hW x ((h2 x).1 hx))
theorem PM.count_lt (h : PM w b n f) (W : List (Nat × Nat)) (hW : ∀ x, f x ≠ none → x ∈ W) {y : Nat × Nat} (hy : y ∈ W) (hn : f y = none) : n < W.length := by
  obtain ⟨D, K, _, _, _, h1, rfl, h2, _⟩ := h
  have := nodup_le (y :: K) W (List.nodup_cons.2 ⟨fun q => (h2 y).1 q hn, h1⟩) (fun x hx => by
    rcases List.mem_cons.1 hx with rfl | hx
    · exact hy
    · exact hW x ((h2 x).1 hx))
  exact this
theorem PM.count_eq (h : PM w b n f) (W : List (Nat × Nat)) (hn : W.Nodup) (hW : ∀ x, x ∈ W ↔ f x ≠ none) : n = W.length := by
  refine Nat.le_antisymm (h.count_le W (fun x hx => (hW x).2 hx)) ?_
  obtain ⟨D, K, _, _, _, h1, rfl, h2, _⟩ := h
  exact nodup_le W K hn (fun x hx => (h2 x).2 ((hW x).1 hx))
theorem pm_has {D : DataW Value} (h : w.ownsMap Try.prog 104 asis b n D) {x : Int × Int} (hx : pwf x) (hD : ∀ zd, D.atKey (pl x) zd = ((pget f x).map DataW.held).getD zd) : Maps.has D (pl x) = (pget f x).isSome := by
  cases hf : pget f x with
  | none =>
    rw [hf] at hD
    obtain ⟨es, rfl⟩ := h.isMap
    exact Maps.has_false_of_atKey hD
  | some v =>
    rw [hf] at hD
    obtain ⟨es, rfl⟩ := h.isMap
    exact Maps.has_true_of_atKey (y := .held v) hD
/-- m[x], and v, ok := m[x] -/
theorem PM.look {t : TypeId} (h : PM w b n f) (ht : Try.prog.underlying t = some (.map 104 3)) {x : Nat × Nat} (hx : Go.Proofs.Ytlnffcledpccjaa.small x) (c : Bool) :
    (Instr.lookup t (.map (some b)) (pv (cs2 x)) c).run Try.prog w = .ok (if c then .tuple #[((f x).map I64).getD (.int .i64 0), .bool (f x).isSome] else ((f x).map I64).getD (.int .i64 0)) w := by
  obtain ⟨D, K, ⟨es, clock, hb, F, _, rfl⟩, _, hD, _⟩ := h
  have hw := pwf_small hx
  have hD' := hD (cs2 x) hw
  rw [pget_nat] at hD'
  rcases Maps.fit_look c law80 ht (zero3 w) hb F (keyOf_pv hw) with ⟨hrun, _, hat⟩ | ⟨e0, y, _, _, hrun, hRv, hat, _⟩
  · have hn : (f x).map I64 = none := look_cases _ (fun zd => (hD' zd).symm.trans (hat zd))
    have hn' : f x = none := by simpa using hn
    rw [hn']
    exact hrun
  · have hy : y = (.held e0.val, []) := by
      unfold asis at hRv
      exact (Option.some.inj hRv).symm
    have hf : (f x).map I64 = some e0.val := by
      have h1 := (hD' .nil).symm.trans (hat .nil)
      rw [hy] at h1
      cases hfj : (f x).map I64 with
      | none => rw [hfj] at h1; cases h1
      | some v => rw [hfj] at h1; simp at h1; rw [h1]
    have hs : (f x).isSome = true := by
      cases hfx : f x with
      | none => rw [hfx] at hf; cases hf
      | some v => rfl
    rw [hf, hs]
    exact hrun
def upd {α : Type} (f : Nat × Nat → α) (x : Nat × Nat) (v : α) (y : Nat × Nat) : α := if y = x then v else f y
theorem upd_same {α : Type} (f : Nat × Nat → α) (x : Nat × Nat) (v : α) : upd f x v x = v := if_pos rfl
theorem upd_other {α : Type} (f : Nat × Nat → α) (x : Nat × Nat) (v : α) {y : Nat × Nat} (h : y ≠ x) : upd f x v y = f y := if_neg h
theorem pget_upd (f : Nat × Nat → Option Nat) (x : Nat × Nat) (v : Option Nat) {z : Int × Int} (hz : pwf z) : pget (upd f x v) z = if z = cs2 x then v.map I64 else pget f z := by
  by_cases h : 0 ≤ z.1 ∧ 0 ≤ z.2
  · obtain ⟨y, hy, rfl⟩ := pwf_nat hz h.1 h.2
    rw [pget_nat, pget_nat]
    by_cases e : y = x
    · subst e; rw [upd_same, if_pos rfl]
    · rw [upd_other _ _ _ e, if_neg (fun q => e (cs2_inj q))]
  · have hne : z ≠ cs2 x := fun q => h (by rw [q]; exact ⟨Int.natCast_nonneg _, Int.natCast_nonneg _⟩)
    rw [if_neg hne]
    unfold pget
    rw [if_neg h, if_neg h]
/-- m[x] = v -/
theorem PM.store {t : TypeId} (h : PM w b n f) (ht : Try.prog.underlying t = some (.map 104 3)) (hn : n < maxLen) {x : Nat × Nat} (hx : Go.Proofs.Ytlnffcledpccjaa.small x) (v : Nat) :
    ∃ w', (Instr.mapUpdate t (.map (some b)) (pv (cs2 x)) (.int .i64 v)).run Try.prog w = .ok () w' ∧ PM w' b (if (f x).isSome then n else n + 1) (upd f x (some v)) ∧ w.mapTurned w' b := by
  obtain ⟨D, K, h, hs, hD, k1, k2, k3, k4⟩ := h
  have hw := pwf_small hx
  have hkey := keyOf_pv hw
  have hkl := law80.key hkey
  have hhas := pm_has h hw (hD _ hw)
  rw [pget_nat, Option.isSome_map] at hhas
  have htidy := h.tidy law80
  obtain ⟨w', hrun, hown, hturn⟩ := h.store law80 ht hn hkey (d := .held (.int .i64 (v : Nat))) (ps := []) rfl
  refine ⟨w', hrun, ⟨D.put (pl (cs2 x)) (.held (.int .i64 (v : Nat))), if (f x).isSome then K else x :: K, ?_, ?_, ?_, ?_, ?_, ?_, ?_⟩, hturn⟩
  · have := owns_tight hown
    rw [Maps.size_put htidy, hhas, hs] at this
    exact this
  · rw [Maps.size_put htidy, hhas, hs]
  · intro z hz zd
    rw [pget_upd f x (some v) hz]
    by_cases hzx : z = cs2 x
    · subst hzx
      rw [Maps.atKey_put_same htidy.isMap hkl, if_pos rfl]
      rfl
    · rw [Maps.atKey_put_other (fun e => hzx (pl_inj hz hw e)), if_neg hzx]
      exact hD z hz zd
  · cases hf : f x with
    | none => exact List.nodup_cons.2 ⟨fun q => (k3 x).1 q hf, k1⟩
    | some u => exact k1
  · cases hf : f x with
    | none => simp [k2]
    | some u => simp [k2]
  · intro y
    cases hf : f x with
    | none =>
      simp only [Option.isSome_none, Bool.false_eq_true, if_false, List.mem_cons]
      by_cases e : y = x
      · subst e; simp [upd_same]
      · rw [upd_other _ _ _ e, ← k3 y]
        simp [e]
    | some u =>
      simp only [Option.isSome_some, if_true]
      by_cases e : y = x
      · subst e; simp [upd_same, k3, hf]
      · rw [upd_other _ _ _ e]; exact k3 y
  · intro y hy
    cases hf : f x with
    | none =>
      rw [hf] at hy
      simp only [Option.isSome_none, Bool.false_eq_true, if_false, List.mem_cons] at hy
      rcases hy with rfl | hy
      · exact hx
      · exact k4 y hy
    | some u =>
      rw [hf] at hy
      exact k4 y hy
/-- delete(m, x) -/
theorem PM.drop {t : TypeId} (h : PM w b n f) (ht : Try.prog.underlying t = some (.map 104 3)) {x : Nat × Nat} (hx : Go.Proofs.Ytlnffcledpccjaa.small x) (ty : TypeId) :
    ∃ w', (Builtin.delete_ #[t, 104] ty #[.map (some b), pv (cs2 x)]).run Try.prog w = .ok (.tuple #[]) w' ∧ PM w' b (if (f x).isSome then n - 1 else n) (upd f x none) ∧ w.mapTurned w' b := by
  obtain ⟨D, K, h, hs, hD, k1, k2, k3, k4⟩ := h
  have hw := pwf_small hx
  have hkey := keyOf_pv hw
  have hkl := law80.key hkey
  have hhas := pm_has h hw (hD _ hw)
  rw [pget_nat, Option.isSome_map] at hhas
  have htidy := h.tidy law80
  obtain ⟨w', hrun, hown, hturn⟩ := h.drop law80 ht hkey ty
  have hsz : Maps.size (D.del (pl (cs2 x))) = if (f x).isSome then n - 1 else n := by
    have := Maps.size_del (k := pl (cs2 x)) htidy
    rw [hhas, hs] at this
    split <;> simp_all <;> omega
  have hmem : ∀ y, y ∈ K.erase x ↔ upd f x none y ≠ none := fun y => by
    by_cases e : y = x
    · subst e
      rw [upd_same]
      exact ⟨fun q => absurd q (List.Nodup.not_mem_erase k1), fun q => absurd rfl q⟩
    · rw [upd_other _ _ _ e, List.mem_erase_of_ne e]
      exact k3 y
  refine ⟨w', hrun, ⟨D.del (pl (cs2 x)), K.erase x, ?_, hsz, ?_, k1.erase x, ?_, hmem, fun y hy => k4 y (List.mem_of_mem_erase hy)⟩, hturn⟩
  · have := owns_tight hown
    rw [hsz] at this
    exact this
  · intro z hz zd
    rw [pget_upd f x none hz]
    by_cases hzx : z = cs2 x
    · subst hzx
      rw [Maps.atKey_del_same, if_pos rfl]
      rfl
    · rw [Maps.atKey_del_other (fun e => hzx (pl_inj hz hw e)), if_neg hzx]
      exact hD z hz zd
  · cases hf : f x with
    | none =>
      rw [List.erase_of_not_mem (fun q => (k3 x).1 q hf)]
      simp [k2]
    | some u =>
      rw [List.length_erase_of_mem ((k3 x).2 (by rw [hf]; simp)), k2]
      simp
/-- len(m) -/
theorem PM.len {t : TypeId} (h : PM w b n f) (ht : Try.prog.underlying t = some (.map 104 3)) (ty : TypeId) : (Builtin.len_ #[t] ty #[.map (some b)]).run Try.prog w = .ok (.int .i64 n) w := by
  obtain ⟨D, K, h, hs, _⟩ := h
  have := h.len ht ty
  rw [hs] at this
  exact this
end
section
variable (w : World) {ops : Array Oper} {rest : List Oper} {o : Oper} {a : Act} {Q : Exit → Act → World → Prop}
theorem wpList_lookup_pm (hg : o.guard = none) (m x : Operand) (t : TypeId) (c : Bool) (hop : o.op = Op.lookup t m x c)
    (ht : Try.prog.underlying t = some (.map 104 3)) (b n : Nat) (f : Nat × Nat → Option Nat)
    (hm : a.eval m = .map (some b)) (him : PM w b n f) (y : Nat × Nat) (hx : a.eval x = pv (cs2 y)) (hy : small y)
    (hK : wpList Try.prog ops Q rest (a.put o.dst (if c then .tuple #[((f y).map I64).getD (.int .i64 0), .bool (f y).isSome] else ((f y).map I64).getD (.int .i64 0))) w) :
    wpList Try.prog ops Q (o :: rest) a w := by
  refine wpList_plain hg fun K' hK' => ?_
  have hrun := him.look ht hy c
  unfold Oper.wp
  simp [execOp, hop, hm, hx, hrun, Result.andThen]
  exact hK' _ _ hK
theorem wpList_update_pm (hg : o.guard = none) (m x v : Operand) (t : TypeId) (hop : o.op = Op.mapUpdate t m x v)
    (ht : Try.prog.underlying t = some (.map 104 3)) (b n : Nat) (f : Nat × Nat → Option Nat)
    (hm : a.eval m = .map (some b)) (him : PM w b n f) (hn : n < maxLen) (y : Nat × Nat) (val : Nat) (hx : a.eval x = pv (cs2 y)) (hv : a.eval v = .int .i64 val) (hy : small y)
    (hK : ∀ w', PM w' b (if (f y).isSome then n else n + 1) (upd f y (some val)) → w.mapTurned w' b → wpList Try.prog ops Q rest (a.put o.dst undef) w') :
    wpList Try.prog ops Q (o :: rest) a w := by
  refine wpList_plain hg fun K' hK' => ?_
  obtain ⟨w', hrun, r1, r2⟩ := him.store ht hn hy val
  unfold Oper.wp
  simp [execOp, hop, hm, hx, hv, hrun, Result.andThen]
  exact hK' _ _ (hK w' r1 r2)
theorem wpList_delete_pm (hg : o.guard = none) (m x : Operand) (t : TypeId) (hop : o.op = Op.call { callee := Callee.builtin Builtin.delete, args := #[m, x], argTypes := #[t, 104] })
    (ht : Try.prog.underlying t = some (.map 104 3)) (b n : Nat) (f : Nat × Nat → Option Nat)
    (hm : a.eval m = .map (some b)) (him : PM w b n f) (y : Nat × Nat) (hx : a.eval x = pv (cs2 y)) (hy : small y)
    (hK : ∀ w', PM w' b (if (f y).isSome then n - 1 else n) (upd f y none) → w.mapTurned w' b → wpList Try.prog ops Q rest (a.put o.dst (.tuple #[])) w') :
    wpList Try.prog ops Q (o :: rest) a w := by
  refine wpList_plain hg fun K' hK' => ?_
  obtain ⟨w', hrun, r1, r2⟩ := him.drop ht hy o.type
  unfold Oper.wp
  simp [execOp, hop, resolve, invoke, builtin, hm, hx, hrun, Result.andThen]
  exact hK' _ _ (hK w' r1 r2)
theorem wpList_len_pm (hg : o.guard = none) (m : Operand) (t : TypeId) (hop : o.op = Op.call { callee := Callee.builtin Builtin.len, args := #[m], argTypes := #[t] })
    (ht : Try.prog.underlying t = some (.map 104 3)) (b n : Nat) (f : Nat × Nat → Option Nat) (hm : a.eval m = .map (some b)) (him : PM w b n f)
    (hK : wpList Try.prog ops Q rest (a.put o.dst (.int .i64 n)) w) :
    wpList Try.prog ops Q (o :: rest) a w := by
  refine wpList_plain hg fun K' hK' => ?_
  unfold Oper.wp
  simp [execOp, hop, resolve, invoke, builtin, hm, him.len ht o.type, Result.andThen]
  exact hK' _ _ hK
end
end Go.Proofs.Ytlnffcledpccjaa
