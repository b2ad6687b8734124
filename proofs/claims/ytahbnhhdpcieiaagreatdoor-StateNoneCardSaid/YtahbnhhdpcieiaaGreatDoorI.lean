/-
  A map that is keyed by integers, whatever its elements are, told as a function; and the operations on it.
-/
import Derived.Maps.OwnSet
import Derived.WalkKit
import Derived.Below
import Derived.Deep.Draws
namespace Go.Proofs.YtahbnhhdpcieiaaGreatDoor
open Go.Maps (Keyed int_keyed keyOf_int_mk IsMap Tidy)
open Go.RowKit
set_option linter.unusedVariables false
/-- all blocks that were there are as they were, but those of S -/
structure Fr (S : Nat → Prop) (w w' : World) : Prop where
  os : w'.os = w.os
  tape : w'.tape = w.tape
  output : w'.output = w.output
  size : w.heap.size ≤ w'.heap.size
  block : ∀ k, k < w.heap.size → ¬ S k → w'.heap[k]? = w.heap[k]?
section
variable {S T : Nat → Prop} {w w' w'' : World}
theorem Fr.refl (S : Nat → Prop) (w : World) : Fr S w w := ⟨rfl, rfl, rfl, Nat.le_refl _, fun _ _ _ => rfl⟩
theorem Fr.trans (h : Fr S w w') (k : Fr S w' w'') : Fr S w w'' :=
  ⟨k.os.trans h.os, k.tape.trans h.tape, k.output.trans h.output, Nat.le_trans h.size k.size, fun i hi hs => (k.block i (Nat.lt_of_lt_of_le hi h.size) hs).trans (h.block i hi hs)⟩
theorem Fr.more (h : Fr S w w') (hST : ∀ k, S k → T k) : Fr T w w' := ⟨h.os, h.tape, h.output, h.size, fun i hi hs => h.block i hi (fun q => hs (hST i q))⟩
/-- what is changed beyond what was there is nothing -/
theorem Fr.trans_new (h : Fr S w w') (k : Fr T w' w'') (hT : ∀ i, T i → S i ∨ w.heap.size ≤ i) : Fr S w w'' :=
  ⟨k.os.trans h.os, k.tape.trans h.tape, k.output.trans h.output, Nat.le_trans h.size k.size, fun i hi hs => (k.block i (Nat.lt_of_lt_of_le hi h.size) (fun q => by
    rcases hT i q with e | e
    · exact hs e
    · omega)).trans (h.block i hi hs)⟩
theorem Fr.of_below (h : Below w.heap.size w w') : Fr S w w' := ⟨h.os, h.tape, h.output, h.size, fun i hi _ => h.block i hi⟩
theorem Fr.drewN (h : Fr S w w') (n : Nat) : Fr S w (w'.drewN n) := ⟨h.os, h.tape, h.output, h.size, h.block⟩
theorem Fr.drew (h : Fr S w w') : Fr S w w'.drew := ⟨h.os, h.tape, h.output, h.size, h.block⟩
theorem Fr.alloc (h : Fr S w w') (o : Obj) : Fr S w (w'.alloc o) := h.trans (Fr.of_below ((Below.refl _ _).alloc (Nat.le_refl _) o))
theorem Fr.set_ (h : Fr S w w') {p : Addr} (hp : S p.block) (u : Value) : Fr S w (w'.setCell p u) :=
  h.trans ⟨rfl, rfl, rfl, by simp [World.setCell], fun i _ hs => Below.heap_setCell w' p u i (fun e => hs (by rw [e]; exact hp))⟩
theorem Fr.below {B : Nat} (h : Fr S w w') (hb : Below B w'' w) (hB : B ≤ w.heap.size) (hS : ∀ k, S k → B ≤ k) : Below B w'' w' :=
  hb.trans ⟨h.os, h.tape, h.output, h.size, fun k hk => h.block k (by omega) (fun q => by have := hS k q; omega)⟩
theorem Fr.keep {g : Nat} {o : Obj} (h : Fr S w w') (hg : w.heap[g]? = some o) (hs : ¬ S g) : w'.heap[g]? = some o := by
  have hlt : g < w.heap.size := by
    rcases Nat.lt_or_ge g w.heap.size with h1 | h1
    · exact h1
    · rw [Array.getElem?_eq_none h1] at hg; cases hg
  exact (h.block g hlt hs).trans hg
theorem Fr.grown {g : Nat} (h : w.grownBy w' (some g)) : Fr (· = g) w w' := ⟨h.os, h.tape, h.output, h.size, fun i hi hs => h.block i hi (fun e => hs (by injection e))⟩
end
def Blk (w : World) (g : Nat) (t : TypeId) (cs : Array Value) : Prop := w.heap[g]? = some (.cells cs t (0, 0))
section
variable {w w' : World} {g g' : Nat} {t t' : TypeId} {cs cs' : Array Value}
theorem Blk.lt (h : Blk w g t cs) : g < w.heap.size := by
  rcases Nat.lt_or_ge g w.heap.size with hlt | hge
  · exact hlt
  · unfold Blk at h; rw [Array.getElem?_eq_none hge] at h; cases h
theorem Blk.row (h : Blk w g t cs) : w.heap[g]? = some (.cells cs t (0, 0)) := h
theorem Blk.cell (h : Blk w g t cs) (i : Nat) : w.cell? ⟨g, i, none⟩ = cs[i]? := cell_of_row w g i cs t (0, 0) h
theorem Blk.frozen (h : Blk w g t cs) (i : Nat) : w.frozen? ⟨g, i, none⟩ = false := by
  unfold Blk at h
  simp [World.frozen?, h]
theorem Blk.ne_ (h : Blk w g t cs) (h' : Blk w g' t' cs') (hne : t ≠ t') : g ≠ g' := by
  rintro rfl
  unfold Blk at h h'
  rw [h] at h'
  injection h' with h'
  injection h' with _ ht
  exact hne ht
theorem Blk.drewN (h : Blk w g t cs) (n : Nat) : Blk (w.drewN n) g t cs := h
theorem Blk.set_ (h : Blk w g t cs) (i : Nat) (u : Value) : Blk (w.setCell ⟨g, i, none⟩ u) g t (cs.setIfInBounds i u) := by
  unfold Blk at h ⊢
  simp [World.setCell, Array.getElem?_modify, h]
theorem Blk.far (h : Blk w g t cs) {p : Addr} (hp : g ≠ p.block) (u : Value) : Blk (w.setCell p u) g t cs := (Below.heap_setCell w p u g hp).trans h
theorem Blk.alloc (h : Blk w g t cs) (o : Obj) : Blk (w.alloc o) g t cs := (Below.heap_alloc w o g h.lt).trans h
theorem Blk.new (w : World) (t : TypeId) (cs : Array Value) : Blk (w.alloc (.cells cs t)) w.heap.size t cs := heap_alloc_new w _
theorem Blk.fr {S : Nat → Prop} (h : Blk w g t cs) (hf : Fr S w w') (hs : ¬ S g) : Blk w' g t cs := hf.keep h hs
theorem Blk.below {B : Nat} (h : Blk w g t cs) (hb : Below B w w') (hg : g < B) : Blk w' g t cs := (hb.block g hg).trans h
end

/-- an element reads as itself -/
def asis (v : Value) : Option (DataW Value × List MemPlace) := some (.held v, [])
/-- block b is a map that is keyed by integers and has n entries: f -/
def IM (w : World) (P : Program) (k : TypeId) (b n : Nat) (f : Int → Option Value) : Prop :=
  ∃ D : DataW Value, w.ownsMap P k asis b n D ∧ Maps.size D = n ∧ ∀ j : Int, (Lit.int .i64 j).wf = true → ∀ zd, D.atKey (.int .i64 j) zd = ((f j).map DataW.held).getD zd
section
variable {P : Program} {k t e : TypeId} {w w' : World} {b n : Nat} {f : Int → Option Value}
theorem IM.lt (h : IM w P k b n f) : b < w.heap.size := by
  obtain ⟨D, h, _⟩ := h
  exact h.lt
theorem IM.same (h : IM w P k b n f) (hb : w'.heap[b]? = w.heap[b]?) : IM w' P k b n f := by
  obtain ⟨D, ⟨es, clock, h1, h2⟩, h3⟩ := h
  exact ⟨D, ⟨es, clock, hb.trans h1, h2⟩, h3⟩
theorem IM.alloc (h : IM w P k b n f) (o : Obj) : IM (w.alloc o) P k b n f := h.same (Below.heap_alloc w o b h.lt)
theorem IM.drewN (h : IM w P k b n f) (m : Nat) : IM (w.drewN m) P k b n f := h
theorem IM.far (h : IM w P k b n f) {p : Addr} (hp : b ≠ p.block) (u : Value) : IM (w.setCell p u) P k b n f := h.same (Below.heap_setCell w p u b hp)
theorem IM.fr {S : Nat → Prop} (h : IM w P k b n f) (hf : Fr S w w') (hs : ¬ S b) : IM w' P k b n f := h.same (hf.block b h.lt hs)
theorem IM.below {B : Nat} (h : IM w P k b n f) (hb : Below B w w') (hg : b < B) : IM w' P k b n f := h.same (hb.block b hg)
theorem IM.ne_ {g : Nat} {t' : TypeId} {cs : Array Value} (h : IM w P k b n f) (h' : Blk w g t' cs) : b ≠ g := by
  rintro rfl
  obtain ⟨D, ⟨es, clock, h1, _⟩, _⟩ := h
  unfold Blk at h'
  rw [h1] at h'
  cases h'
theorem IM.made (w : World) (P : Program) (k : TypeId) : IM (w.alloc (.map #[] 0)) P k w.heap.size 0 (fun _ => none) :=
  ⟨.map [], World.ownsMap_made w P k asis, rfl, fun _ _ _ => rfl⟩
theorem IM.congr {f' : Int → Option Value} (h : IM w P k b n f) (hf : ∀ j, (Lit.int .i64 j).wf = true → f' j = f j) : IM w P k b n f' := by
  obtain ⟨D, h1, h2, h3⟩ := h
  exact ⟨D, h1, h2, fun j hj zd => by rw [hf j hj]; exact h3 j hj zd⟩
theorem owns_tight {D : DataW Value} (h : w.ownsMap P k asis b n D) : w.ownsMap P k asis b (Maps.size D) D := by
  obtain ⟨es, clock, hb, F, _, rfl⟩ := h
  exact ⟨es, clock, hb, F, by simp [Maps.size, length_sorted], rfl⟩
theorem look_cases (o : Option Value) : (∀ zd : DataW Value, ((o.map DataW.held).getD zd = zd)) → o = none := by
  intro h
  cases o with
  | none => rfl
  | some v => have := h .nil; simp at this
theorem IM.has (K : Keyed P k) {D : DataW Value} (h : w.ownsMap P k asis b n D) {j : Int} (hk : WideAt.IsKeyLit (.int .i64 j)) (hD : ∀ zd, D.atKey (.int .i64 j) zd = ((f j).map DataW.held).getD zd) : Maps.has D (.int .i64 j) = (f j).isSome := by
  cases hf : f j with
  | none =>
    rw [hf] at hD
    obtain ⟨es, rfl⟩ := h.isMap
    exact Maps.has_false_of_atKey hD
  | some v =>
    rw [hf] at hD
    obtain ⟨es, rfl⟩ := h.isMap
    exact Maps.has_true_of_atKey (y := .held v) hD
/-- m[j], and v, ok := m[j] -/
theorem IM.look (h : IM w P k b n f) (hk : P.underlying k = some (.int .i64)) (ht : P.underlying t = some (.map k e)) {z : Value} (hz : (zeroValue e).run P w = .ok z w) (j : Int) (hj : (Lit.int .i64 j).wf = true) (c : Bool) :
    (Instr.lookup t (.map (some b)) (.int .i64 j) c).run P w = .ok (if c then .tuple #[(f j).getD z, .bool (f j).isSome] else (f j).getD z) w := by
  obtain ⟨D, ⟨es, clock, hb, F, _, rfl⟩, _, hD⟩ := h
  rcases Maps.fit_look c (int_keyed hk) ht hz hb F (keyOf_int_mk hk hj) with ⟨hrun, _, hat⟩ | ⟨e0, y, _, _, hrun, hRv, hat, _⟩
  · have hn : f j = none := look_cases _ (fun zd => (hD j hj zd).symm.trans (hat zd))
    rw [hn]
    exact hrun
  · have hy : y = (.held e0.val, []) := by
      unfold asis at hRv
      exact (Option.some.inj hRv).symm
    have hf : f j = some e0.val := by
      have h1 := (hD j hj .nil).symm.trans (hat .nil)
      rw [hy] at h1
      cases hfj : f j with
      | none => rw [hfj] at h1; cases h1
      | some v => rw [hfj] at h1; simp at h1; rw [h1]
    rw [hf]
    exact hrun
/-- m[j] = v -/
theorem IM.store (h : IM w P k b n f) (hk : P.underlying k = some (.int .i64)) (ht : P.underlying t = some (.map k e)) (hn : n < maxLen) (j : Int) (hj : (Lit.int .i64 j).wf = true) (v : Value) :
    ∃ w', (Instr.mapUpdate t (.map (some b)) (.int .i64 j) v).run P w = .ok () w' ∧ IM w' P k b (if (f j).isSome then n else n + 1) (fun x => if x = j then some v else f x) ∧ w.mapTurned w' b := by
  obtain ⟨D, h, hs, hD⟩ := h
  have hkey := keyOf_int_mk hk hj
  have hkl := (int_keyed hk).key hkey
  have hhas := IM.has (int_keyed hk) h hkl (hD j hj)
  have htidy := h.tidy (int_keyed hk)
  obtain ⟨w', hrun, hown, hturn⟩ := h.store (int_keyed hk) ht hn hkey (d := .held v) (ps := []) rfl
  refine ⟨w', hrun, ⟨D.put (.int .i64 j) (.held v), ?_, ?_, ?_⟩, hturn⟩
  · have := owns_tight hown
    rw [Maps.size_put htidy, hhas, hs] at this
    exact this
  · rw [Maps.size_put htidy, hhas, hs]
  · intro x hx zd
    show _ = ((if x = j then _ else _ : Option Value).map DataW.held).getD zd
    by_cases hxj : x = j
    · subst hxj
      rw [Maps.atKey_put_same htidy.isMap hkl, if_pos rfl]
      rfl
    · rw [Maps.atKey_put_other (by intro e; injection e with _ e; exact hxj e), if_neg hxj]
      exact hD x hx zd
/-- delete(m, j) -/
theorem IM.drop (h : IM w P k b n f) (hk : P.underlying k = some (.int .i64)) (ht : P.underlying t = some (.map k e)) (j : Int) (hj : (Lit.int .i64 j).wf = true) (ty : TypeId) :
    ∃ w', (Builtin.delete_ #[t, k] ty #[.map (some b), .int .i64 j]).run P w = .ok (.tuple #[]) w' ∧ IM w' P k b (if (f j).isSome then n - 1 else n) (fun x => if x = j then none else f x) ∧ w.mapTurned w' b := by
  obtain ⟨D, h, hs, hD⟩ := h
  have hkey := keyOf_int_mk hk hj
  have hkl := (int_keyed hk).key hkey
  have hhas := IM.has (int_keyed hk) h hkl (hD j hj)
  have htidy := h.tidy (int_keyed hk)
  obtain ⟨w', hrun, hown, hturn⟩ := h.drop (int_keyed hk) ht hkey ty
  have hsz : Maps.size (D.del (.int .i64 j)) = if (f j).isSome then n - 1 else n := by
    have := Maps.size_del (k := .int .i64 j) htidy
    rw [hhas, hs] at this
    split <;> simp_all <;> omega
  refine ⟨w', hrun, ⟨D.del (.int .i64 j), ?_, hsz, ?_⟩, hturn⟩
  · have := owns_tight hown
    rw [hsz] at this
    exact this
  · intro x hx zd
    show _ = ((if x = j then _ else _ : Option Value).map DataW.held).getD zd
    by_cases hxj : x = j
    · subst hxj
      rw [Maps.atKey_del_same, if_pos rfl]
      rfl
    · rw [Maps.atKey_del_other (by intro e; injection e with _ e; exact hxj e), if_neg hxj]
      exact hD x hx zd
/-- len(m) -/
theorem IM.len (h : IM w P k b n f) (ht : P.underlying t = some (.map k e)) (ty : TypeId) : (Builtin.len_ #[t] ty #[.map (some b)]).run P w = .ok (.int .i64 n) w := by
  obtain ⟨D, h, hs, hD⟩ := h
  have := h.len ht ty
  rw [hs] at this
  exact this
theorem turned_fr {w w' : World} {b : Nat} (h : w.mapTurned w' b) : Fr (· = b) w w' := Fr.grown h.grown
end

section
variable {P : Program} (w : World) {ops : Array Oper} {rest : List Oper} {o : Oper} {a : Act} {Q : Exit → Act → World → Prop}
theorem wpList_lookup_im (hg : o.guard = none) (m x : Operand) (t : TypeId) (c : Bool) (hop : o.op = Op.lookup t m x c)
    (k e : TypeId) (hk : P.underlying k = some (.int .i64)) (ht : P.underlying t = some (.map k e)) {z : Value} (hz : (zeroValue e).run P w = .ok z w) (b n : Nat) (f : Int → Option Value)
    (hm : a.eval m = .map (some b)) (him : IM w P k b n f) (j : Int) (hx : a.eval x = .int .i64 j) (hj : (Lit.int .i64 j).wf = true)
    (hK : wpList P ops Q rest (a.put o.dst (if c then .tuple #[(f j).getD z, .bool (f j).isSome] else (f j).getD z)) w) :
    wpList P ops Q (o :: rest) a w := by
  refine wpList_plain hg fun K' hK' => ?_
  have hrun := him.look hk ht hz j hj c
  unfold Oper.wp
  simp [execOp, hop, hm, hx, hrun, Result.andThen]
  exact hK' _ _ hK
theorem wpList_update_im (hg : o.guard = none) (m x v : Operand) (t : TypeId) (hop : o.op = Op.mapUpdate t m x v)
    (k e : TypeId) (hk : P.underlying k = some (.int .i64)) (ht : P.underlying t = some (.map k e)) (b n : Nat) (f : Int → Option Value)
    (hm : a.eval m = .map (some b)) (him : IM w P k b n f) (hn : n < maxLen) (j : Int) (val : Value) (hx : a.eval x = .int .i64 j) (hv : a.eval v = val) (hj : (Lit.int .i64 j).wf = true)
    (hK : ∀ w', IM w' P k b (if (f j).isSome then n else n + 1) (fun x => if x = j then some val else f x) → w.mapTurned w' b → wpList P ops Q rest (a.put o.dst undef) w') :
    wpList P ops Q (o :: rest) a w := by
  refine wpList_plain hg fun K' hK' => ?_
  obtain ⟨w', hrun, r1, r2⟩ := him.store hk ht hn j hj val
  unfold Oper.wp
  simp [execOp, hop, hm, hx, hv, hrun, Result.andThen]
  exact hK' _ _ (hK w' r1 r2)
theorem wpList_delete_im (hg : o.guard = none) (m x : Operand) (t k : TypeId) (hop : o.op = Op.call { callee := Callee.builtin Builtin.delete, args := #[m, x], argTypes := #[t, k] })
    (e : TypeId) (hk : P.underlying k = some (.int .i64)) (ht : P.underlying t = some (.map k e)) (b n : Nat) (f : Int → Option Value)
    (hm : a.eval m = .map (some b)) (him : IM w P k b n f) (j : Int) (hx : a.eval x = .int .i64 j) (hj : (Lit.int .i64 j).wf = true)
    (hK : ∀ w', IM w' P k b (if (f j).isSome then n - 1 else n) (fun x => if x = j then none else f x) → w.mapTurned w' b → wpList P ops Q rest (a.put o.dst (.tuple #[])) w') :
    wpList P ops Q (o :: rest) a w := by
  refine wpList_plain hg fun K' hK' => ?_
  obtain ⟨w', hrun, r1, r2⟩ := him.drop hk ht j hj o.type
  unfold Oper.wp
  simp [execOp, hop, resolve, invoke, builtin, hm, hx, hrun, Result.andThen]
  exact hK' _ _ (hK w' r1 r2)
theorem wpList_len_im (hg : o.guard = none) (m : Operand) (t : TypeId) (hop : o.op = Op.call { callee := Callee.builtin Builtin.len, args := #[m], argTypes := #[t] })
    (k e : TypeId) (ht : P.underlying t = some (.map k e)) (b n : Nat) (f : Int → Option Value) (hm : a.eval m = .map (some b)) (him : IM w P k b n f)
    (hK : wpList P ops Q rest (a.put o.dst (.int .i64 n)) w) :
    wpList P ops Q (o :: rest) a w := by
  refine wpList_plain hg fun K' hK' => ?_
  unfold Oper.wp
  simp [execOp, hop, resolve, invoke, builtin, hm, him.len ht o.type, Result.andThen]
  exact hK' _ _ hK
end
end Go.Proofs.YtahbnhhdpcieiaaGreatDoor
