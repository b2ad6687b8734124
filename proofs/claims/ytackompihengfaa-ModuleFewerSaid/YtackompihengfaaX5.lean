/-
  A map keyed by strings, told as a function.
-/
import Derived.Test.YtackompihengfaaX1
import Derived.Maps.OwnSet
import Derived.WalkKit
import Derived.Below
import Derived.Deep.Draws
import Derived.Test.YtackompihengfaaX4
import Derived.BigQuiet
import Derived.Deep.RegionHeld3
import Derived.BigGuard
namespace Go.Proofs.Ytackompihengfaa
open Go.Maps (Keyed string_keyed IsMap Tidy)
open Go.RowKit
set_option linter.unusedVariables false
/-- an element reads as itself -/
def asis (v : Value) : Option (DataW Value × List MemPlace) := some (.held v, [])
/-- block b is a map that is keyed by integers and has n entries: f -/
def SM (w : World) (P : Program) (k : TypeId) (b n : Nat) (f : ByteArray → Option Value) : Prop :=
  ∃ D : DataW Value, w.ownsMap P k asis b n D ∧ Maps.size D = n ∧ ∀ j : ByteArray, j.size ≤ maxLen → ∀ zd, D.atKey (.string j.data.toList) zd = ((f j).map DataW.held).getD zd
section
variable {P : Program} {k t e : TypeId} {w w' : World} {b n : Nat} {f : ByteArray → Option Value}
theorem SM.lt (h : SM w P k b n f) : b < w.heap.size := by
  obtain ⟨D, h, _⟩ := h
  exact h.lt
theorem SM.same (h : SM w P k b n f) (hb : w'.heap[b]? = w.heap[b]?) : SM w' P k b n f := by
  obtain ⟨D, ⟨es, clock, h1, h2⟩, h3⟩ := h
  exact ⟨D, ⟨es, clock, hb.trans h1, h2⟩, h3⟩
theorem SM.alloc (h : SM w P k b n f) (o : Obj) : SM (w.alloc o) P k b n f := h.same (Below.heap_alloc w o b h.lt)
theorem SM.drewN (h : SM w P k b n f) (m : Nat) : SM (w.drewN m) P k b n f := h
theorem SM.far (h : SM w P k b n f) {p : Addr} (hp : b ≠ p.block) (u : Value) : SM (w.setCell p u) P k b n f := h.same (Below.heap_setCell w p u b hp)
theorem SM.fr {S : Nat → Prop} (h : SM w P k b n f) (hf : Fr S w w') (hs : ¬ S b) : SM w' P k b n f := h.same (hf.block b h.lt hs)
theorem SM.below {B : Nat} (h : SM w P k b n f) (hb : Below B w w') (hg : b < B) : SM w' P k b n f := h.same (hb.block b hg)
theorem SM.ne_ {g : Nat} {t' : TypeId} {cs : Array Value} (h : SM w P k b n f) (h' : Blk w g t' cs) : b ≠ g := by
  rintro rfl
  obtain ⟨D, ⟨es, clock, h1, _⟩, _⟩ := h
  unfold Blk at h'
  rw [h1] at h'
  cases h'
theorem SM.made (w : World) (P : Program) (k : TypeId) : SM (w.alloc (.map #[] 0)) P k w.heap.size 0 (fun _ => none) :=
  ⟨.map [], World.ownsMap_made w P k asis, rfl, fun _ _ _ => rfl⟩
theorem SM.congr {f' : ByteArray → Option Value} (h : SM w P k b n f) (hf : ∀ j, j.size ≤ maxLen → f' j = f j) : SM w P k b n f' := by
  obtain ⟨D, h1, h2, h3⟩ := h
  exact ⟨D, h1, h2, fun j hj zd => by rw [hf j hj]; exact h3 j hj zd⟩
theorem owns_tight {D : DataW Value} (h : w.ownsMap P k asis b n D) : w.ownsMap P k asis b (Maps.size D) D := by
  obtain ⟨es, clock, hb, F, _, rfl⟩ := h
  exact ⟨es, clock, hb, F, by simp [Maps.size, length_sorted], rfl⟩
theorem look_cases (o : Option Value) : (∀ zd : DataW Value, ((o.map DataW.held).getD zd = zd)) → o = none := by
  intro h
  cases o with
  | none => rfl
  | some v => have := h .nil; simp at this
theorem SM.has (K : Keyed P k) {D : DataW Value} (h : w.ownsMap P k asis b n D) {j : ByteArray} (hk : WideAt.IsKeyLit (.string j.data.toList)) (hD : ∀ zd, D.atKey (.string j.data.toList) zd = ((f j).map DataW.held).getD zd) : Maps.has D (.string j.data.toList) = (f j).isSome := by
  cases hf : f j with
  | none =>
    rw [hf] at hD
    obtain ⟨es, rfl⟩ := h.isMap
    exact Maps.has_false_of_atKey hD
  | some v =>
    rw [hf] at hD
    obtain ⟨es, rfl⟩ := h.isMap
    exact Maps.has_true_of_atKey (y := .held v) hD
/-- m[j], and v, ok := m[j] -/
theorem SM.look (h : SM w P k b n f) (hk : P.underlying k = some .string) (ht : P.underlying t = some (.map k e)) {z : Value} (hz : (zeroValue e).run P w = .ok z w) (j : ByteArray) (hj : j.size ≤ maxLen) (c : Bool) :
    (Instr.lookup t (.map (some b)) (.string j) c).run P w = .ok (if c then .tuple #[(f j).getD z, .bool (f j).isSome] else (f j).getD z) w := by
  obtain ⟨D, ⟨es, clock, hb, F, _, rfl⟩, _, hD⟩ := h
  rcases Maps.fit_look c (string_keyed hk) ht hz hb F (WideMaps.keyOf_string_mk hk hj) with ⟨hrun, _, hat⟩ | ⟨e0, y, _, _, hrun, hRv, hat, _⟩
  · have hn : f j = none := look_cases _ (fun zd => (hD j hj zd).symm.trans (hat zd))
    rw [hn]
    exact hrun
  · have hy : y = (.held e0.val, []) := by
      unfold asis at hRv
      exact (Option.some.inj hRv).symm
    have hf : f j = some e0.val := by
      have h1 := (hD j hj .nil).symm.trans (hat .nil)
      rw [hy] at h1
      cases hfj : f j with
      | none => rw [hfj] at h1; cases h1
      | some v => rw [hfj] at h1; simp at h1; rw [h1]
    rw [hf]
    exact hrun
/-- m[j] = v -/
theorem SM.store (h : SM w P k b n f) (hk : P.underlying k = some .string) (ht : P.underlying t = some (.map k e)) (hn : n < maxLen) (j : ByteArray) (hj : j.size ≤ maxLen) (v : Value) :
    ∃ w', (Instr.mapUpdate t (.map (some b)) (.string j) v).run P w = .ok () w' ∧ SM w' P k b (if (f j).isSome then n else n + 1) (fun x => if x = j then some v else f x) ∧ w.mapTurned w' b := by
  obtain ⟨D, h, hs, hD⟩ := h
  have hkey := WideMaps.keyOf_string_mk hk hj
  have hkl := (string_keyed hk).key hkey
  have hhas := SM.has (string_keyed hk) h hkl (hD j hj)
  have htidy := h.tidy (string_keyed hk)
  obtain ⟨w', hrun, hown, hturn⟩ := h.store (string_keyed hk) ht hn hkey (d := .held v) (ps := []) rfl
  refine ⟨w', hrun, ⟨D.put (.string j.data.toList) (.held v), ?_, ?_, ?_⟩, hturn⟩
  · have := owns_tight hown
    rw [Maps.size_put htidy, hhas, hs] at this
    exact this
  · rw [Maps.size_put htidy, hhas, hs]
  · intro x hx zd
    show _ = ((if x = j then _ else _ : Option Value).map DataW.held).getD zd
    by_cases hxj : x = j
    · subst hxj
      rw [Maps.atKey_put_same htidy.isMap hkl, if_pos rfl]
      rfl
    · rw [Maps.atKey_put_other (by intro e; injection e with e; exact hxj (ByteArray.ext (Array.toList_inj.1 e))), if_neg hxj]
      exact hD x hx zd
theorem turned_fr {w w' : World} {b : Nat} (h : w.mapTurned w' b) : Fr (· = b) w w' := Fr.grown h.grown
end

section
variable {P : Program} (w : World) {ops : Array Oper} {rest : List Oper} {o : Oper} {a : Act} {Q : Exit → Act → World → Prop}
theorem wpList_lookup_sm (hg : o.guard = none) (m x : Operand) (t : TypeId) (c : Bool) (hop : o.op = Op.lookup t m x c)
    (k e : TypeId) (hk : P.underlying k = some .string) (ht : P.underlying t = some (.map k e)) {z : Value} (hz : (zeroValue e).run P w = .ok z w) (b n : Nat) (f : ByteArray → Option Value)
    (hm : a.eval m = .map (some b)) (him : SM w P k b n f) (j : ByteArray) (hx : a.eval x = .string j) (hj : j.size ≤ maxLen)
    (hK : wpList P ops Q rest (a.put o.dst (if c then .tuple #[(f j).getD z, .bool (f j).isSome] else (f j).getD z)) w) :
    wpList P ops Q (o :: rest) a w := by
  refine wpList_plain hg fun K' hK' => ?_
  have hrun := him.look hk ht hz j hj c
  unfold Oper.wp
  simp [execOp, hop, hm, hx, hrun, Result.andThen]
  exact hK' _ _ hK
theorem wpList_update_sm (hg : o.guard = none) (m x v : Operand) (t : TypeId) (hop : o.op = Op.mapUpdate t m x v)
    (k e : TypeId) (hk : P.underlying k = some .string) (ht : P.underlying t = some (.map k e)) (b n : Nat) (f : ByteArray → Option Value)
    (hm : a.eval m = .map (some b)) (him : SM w P k b n f) (hn : n < maxLen) (j : ByteArray) (val : Value) (hx : a.eval x = .string j) (hv : a.eval v = val) (hj : j.size ≤ maxLen)
    (hK : ∀ w', SM w' P k b (if (f j).isSome then n else n + 1) (fun x => if x = j then some val else f x) → w.mapTurned w' b → wpList P ops Q rest (a.put o.dst undef) w') :
    wpList P ops Q (o :: rest) a w := by
  refine wpList_plain hg fun K' hK' => ?_
  obtain ⟨w', hrun, r1, r2⟩ := him.store hk ht hn j hj val
  unfold Oper.wp
  simp [execOp, hop, hm, hx, hv, hrun, Result.andThen]
  exact hK' _ _ (hK w' r1 r2)
end
end Go.Proofs.Ytackompihengfaa
/-
  The closure of exports.
-/
namespace Go.Proofs.Ytackompihengfaa
open Go.RowKit Go.PlainAid
set_option linter.unusedVariables false
set_option linter.unusedSimpArgs false
open Go.Maps (Keyed string_keyed IsMap Tidy)
/-- what lies in memory while exports are looked at one by one -/
structure ExJ (w0 : World) (p pm bm g n : Nat) (f : ByteArray → Option Value) (W : World) : Prop where
  bel : Below w0.heap.size w0 W
  cp : W.cell? ⟨p, 0, none⟩ = some (.pointer (some ⟨g, 0, none⟩))
  cm : W.cell? ⟨pm, 0, none⟩ = some (.map (some bm))
  lp : p < W.heap.size
  lm : pm < W.heap.size
  sm : SM W Try.prog 9 bm n f
  np : p ≠ bm
  nm : pm ≠ bm
  new : w0.heap.size ≤ bm
theorem ExJ.below {w0 W W' : World} {p pm bm g n : Nat} {f : ByteArray → Option Value} (h : ExJ w0 p pm bm g n f W) (hb : Below W.heap.size W W') : ExJ w0 p pm bm g n f W' :=
  ⟨h.bel.trans (hb.mono h.bel.size), (hb.cell (p := ⟨p, 0, none⟩) h.lp).trans h.cp, (hb.cell (p := ⟨pm, 0, none⟩) h.lm).trans h.cm, Nat.lt_of_lt_of_le h.lp hb.size, Nat.lt_of_lt_of_le h.lm hb.size, h.sm.below hb h.sm.lt, h.np, h.nm, h.new⟩
theorem ExJ.turn {w0 W W' : World} {p pm bm g n n' : Nat} {f f' : ByteArray → Option Value} (h : ExJ w0 p pm bm g n f W) (hs : SM W' Try.prog 9 bm n' f') (ht : W.mapTurned W' bm) : ExJ w0 p pm bm g n' f' W' := by
  have hf : Fr (· = bm) W W' := turned_fr ht
  refine ⟨hf.below h.bel h.bel.size (fun k hk => hk ▸ h.new), ?_, ?_, Nat.lt_of_lt_of_le h.lp hf.size, Nat.lt_of_lt_of_le h.lm hf.size, hs, h.np, h.nm, h.new⟩
  · have e := hf.block p h.lp h.np
    have c := h.cp
    unfold World.cell? at c ⊢
    rw [e]
    exact c
  · have e := hf.block pm h.lm h.nm
    have c := h.cm
    unfold World.cell? at c ⊢
    rw [e]
    exact c
theorem zero140 (W : World) : (zeroValue 140).run Try.prog W = .ok (.agg #[]) W := by kernel_rfl
theorem turned_cell {W W' : World} {bm b o : Nat} {v : Value} (ht : W.mapTurned W' bm) (hl : b < W.heap.size) (hn : b ≠ bm) (hc : W.cell? ⟨b, o, none⟩ = some v) : W'.cell? ⟨b, o, none⟩ = some v := by
  have hf : Fr (· = bm) W W' := turned_fr ht
  have e := hf.block b hl hn
  unfold World.cell? at hc ⊢
  rw [e]
  exact hc
/-- what an export is told to be -/
def exE (had : Bool) (na tab : Int) (n4 n5 : Nat) (x : ExT) : Int := if had || !nmB x.nm then 16 else if thB na tab n4 n5 x.kd x.ix then 0 else 2
set_option maxHeartbeats 4000000 in
set_option maxRecDepth 100000 in
theorem exports1_ok (nm : ByteArray) (kd ix na tab : Int) (n4 n5 : Nat) (w0 : World) (p pm bm g n : Nat) (f : ByteArray → Option Value) (hsz : nm.size ≤ 1000) (hn : n ≤ 1000) (W : World) (hj : ExJ w0 p pm bm g n f W) (had : Bool)
    (hf : f nm = if had then some (.agg #[]) else none)
    (hT : ∀ V, Below w0.heap.size w0 V → Calls Try.prog 77 #[.pointer (some ⟨g, 0, none⟩), .agg #[.string nm, .int .i64 kd, .int .i64 ix]] V fun e w' => e = .returned (.bool (thB na tab n4 n5 kd ix)) ∧ Below V.heap.size V w') :
    Calls Try.prog 76 #[.agg #[.string nm, .int .i64 kd, .int .i64 ix], .pointer (some ⟨pm, 0, none⟩), .pointer (some ⟨p, 0, none⟩)] W fun e w' => e = .returned (.int .i64 (exE had na tab n4 n5 ⟨nm, kd, ix⟩)) ∧ Below w0.heap.size w0 w' ∧ (exE had na tab n4 n5 ⟨nm, kd, ix⟩ = 0 → ExJ w0 p pm bm g (n + 1) (fun s => if s = nm then some (.agg #[]) else f s) w') := by
  obtain ⟨W1, hW⟩ : ∃ V, V = W.alloc (.cells #[.string nm, .int .i64 kd, .int .i64 ix] 53) := ⟨_, rfl⟩
  have hbl : Below W.heap.size W W1 := by rw [hW]; exact (Below.refl _ _).alloc (Nat.le_refl _) _
  have hxb : Blk W1 W.heap.size 53 #[.string nm, .int .i64 kd, .int .i64 ix] := by rw [hW]; exact Blk.new W 53 _
  have hj1 := hj.below hbl
  have hnx : W.heap.size ≠ bm := by have := hj.sm.lt; omega
  have y0 : W1.cell? ⟨W.heap.size, 0, none⟩ = some (.string nm) := hxb.cell 0
  have ym : W1.cell? ⟨pm, 0, none⟩ = some (.map (some bm)) := hj1.cm
  have HI := Lib.hid hj1.sm
  have HJ1 := Lib.hid hj1
  have HSZ : Hid (nm.size ≤ maxLen) := Lib.hid (by unfold maxLen; omega)
  have HW := Lib.hid hW
  have HF := Lib.hid hf
  have HT := Lib.hid hT
  have HXB := Lib.hid hxb
  have hx2l : W.heap.size < W1.heap.size := hxb.lt
  have ya : (W1.alloc (.cells #[] 140)).cell? ⟨W.heap.size, 0, none⟩ = some (.string nm) := (((Below.refl W1.heap.size W1).alloc (Nat.le_refl _) _).cell (p := ⟨W.heap.size, 0, none⟩) hx2l).trans y0
  have HN := Lib.hid (fun V => Named_any nm hsz V)
  have HNN := Lib.hid hn
  obtain ⟨r, hr⟩ : ∃ r, r = exE had na tab n4 n5 ⟨nm, kd, ix⟩ := ⟨_, rfl⟩
  rw [← hr]
  unfold exE at hr
  dsimp only at hr
  obtain ⟨x2, hx2⟩ : ∃ x, x = W.heap.size := ⟨_, rfl⟩
  rw [← hx2] at y0 ya hx2l HXB hnx
  have HX2 := Lib.hid hx2
  have HNX := Lib.hid hnx
  clear hbl hW hxb hj hj1 hf hT hsz hn hx2 hnx
  cases had with
  | true =>
    rw [Bool.true_or, if_pos rfl] at hr
    subst hr
    clear HN HT
    go_enter Try.func76, Try.ntmps76
    go_upto_region 1 with fail
    rw [← HW.out, ← HX2.out]
    go_wp2_with (at_lookup; refine wpList_lookup_sm _ rfl _ _ 138 true rfl 9 140 Try.underlying9 Try.underlying138 (zero140 _) bm n f rfl HI.out nm rfl HSZ.out ?_; rw [if_pos rfl, HF.out, if_pos rfl, Option.getD_some, Option.isSome_some])
    go_ret
    first
      | exact ⟨rfl, HJ1.out.bel.alloc HJ1.out.bel.size _⟩
      | exact ⟨rfl, HJ1.out.bel.alloc HJ1.out.bel.size _, fun h => absurd h (by decide)⟩
  | false =>
    rw [Bool.false_or] at hr
    have HF2 : Hid (f nm = none) := Lib.hid (by have h := HF.out; simpa using h)
    clear HF
    cases hnm : nmB nm with
    | false =>
      rw [hnm] at hr HN
      rw [if_pos (by decide)] at hr
      subst hr
      clear hnm HT
      go_enter Try.func76, Try.ntmps76
      go_upto_region 1 with fail
      rw [← HW.out, ← HX2.out]
      go_wp2_with (first
        | (at_lookup; refine wpList_lookup_sm _ rfl _ _ 138 true rfl 9 140 Try.underlying9 Try.underlying138 (zero140 _) bm n f rfl HI.out nm rfl HSZ.out ?_; rw [if_pos rfl, HF2.out, Option.getD_none, Option.isSome_none])
        | (go_at_call 11; (with_reducible refine (HN.out _).mono ?_); rintro e w1 ⟨rfl, rfl⟩))
      go_ret
      first
      | exact ⟨rfl, HJ1.out.bel.alloc HJ1.out.bel.size _⟩
      | exact ⟨rfl, HJ1.out.bel.alloc HJ1.out.bel.size _, fun h => absurd h (by decide)⟩
    | true =>
      rw [hnm] at hr HN
      rw [if_neg (by decide)] at hr
      clear hnm
      have H64 := Lib.hid (fun V => unless_any (thB na tab n4 n5 kd ix) 2 V)
      rw [← hr] at H64
      have HR := Lib.hid hr
      clear hr
      generalize thB na tab n4 n5 kd ix = q at HT H64 HR
      go_enter Try.func76, Try.ntmps76
      go_upto_region 1 with fail
      rw [← HW.out, ← HX2.out]
      go_upto_region 4 with (first
        | (at_lookup; refine wpList_lookup_sm _ rfl _ _ 138 true rfl 9 140 Try.underlying9 Try.underlying138 (zero140 _) bm n f rfl HI.out nm rfl HSZ.out ?_; rw [if_pos rfl, HF2.out, Option.getD_none, Option.isSome_none])
        | (go_at_call 11; (with_reducible refine (HN.out _).mono ?_); rintro e w1 ⟨rfl, rfl⟩))
      obtain ⟨W2, hW2⟩ : ∃ V, V = W1.alloc (.cells #[] 140) := ⟨_, rfl⟩
      have hb2 : Below W1.heap.size W1 W2 := by rw [hW2]; exact (Below.refl _ _).alloc (Nat.le_refl _) _
      rw [← hW2] at ya ⊢
      have HJ2 := Lib.hid (HJ1.out.below hb2)
      have HXB2 := Lib.hid (HXB.out.below hb2 HXB.out.lt)
      have hx2l2 := HXB2.out.lt
      have ym2 := HJ2.out.cm
      clear hW2 hb2 y0 ym hx2l
      go_wp2_with (first
        | (refine wpList_update_sm _ rfl _ _ _ 138 rfl 9 140 Try.underlying9 Try.underlying138 bm n f rfl HJ2.out.sm (by have := HNN.out; unfold maxLen; omega) nm (.agg #[]) rfl rfl HSZ.out ?_
           rw [HF2.out, Option.isSome_none, if_neg (by decide)]
           intro w3 hs ht
           have HJ3 := Lib.hid (HJ2.out.turn hs ht)
           have b0 := turned_cell ht hx2l2 HNX.out (HXB2.out.cell 0)
           have b1 := turned_cell ht hx2l2 HNX.out (HXB2.out.cell 1)
           have b2 := turned_cell ht hx2l2 HNX.out (HXB2.out.cell 2)
           have c3 := HJ3.out.cp
           clear hs ht)
        | (go_at_call 77; (with_reducible refine (HT.out _ HJ3.out.bel).mono ?_); rintro e w4 ⟨rfl, hb4⟩
           have HJ4 := Lib.hid (HJ3.out.below hb4)
           clear hb4)
        | (go_at_call 64; (with_reducible refine (H64.out _).mono ?_); rintro e w5 ⟨rfl, rfl⟩))
      go_ret
      exact ⟨rfl, HJ4.out.bel, fun _ => HJ4.out⟩
end Go.Proofs.Ytackompihengfaa
