/-
  StackPlays: its acts opened to their cells; the row of words; what is known in a round.
-/
import Derived.Test.YthfdblpodnodcaaVc
import Derived.Test.YthfdblpodnodcaaVd
import Derived.Test.YthfdblpodnodcaaTf
import Derived.Test.YthfdblpodnodcaaTj
import Derived.Deep.Slices
import Derived.Deep.Fields
import Derived.ChangeSame
import Derived.ChangeSlices
namespace Go.Proofs.Ythfdblpodnodcaa
open Go.RowKit Go.ChangeShapes Go.WideShapes Go.Deep
set_option linter.unusedVariables false
set_option linter.unusedSimpArgs false
structure Deed where
  kd : Nat
  x : Int
  y : Int
  B : Option Addr
  ln : Nat
  lc : Nat
  f : Nat → Nat
structure DeedAt (w : World) (b o : Nat) (X : Deed) : Prop where
  c0 : w.cell? ⟨b, o, none⟩ = some (.int .u8 X.kd)
  c1 : w.cell? ⟨b, o + 1, none⟩ = some (.int .i64 X.x)
  c2 : w.cell? ⟨b, o + 2, none⟩ = some (.int .i64 X.y)
  c3 : w.cell? ⟨b, o + 3, none⟩ = some (.slice X.B X.ln X.lc)
  kd : X.kd < 256
  x : -9223372036854775808 ≤ X.x ∧ X.x ≤ 9223372036854775807
  y : -9223372036854775808 ≤ X.y ∧ X.y ≤ 9223372036854775807
  L : Wrd w X.B X.ln X.lc X.f
def DdRow (w : World) (a : Option Addr) (len cap : Nat) (F : Nat → Deed) : Prop :=
  len ≤ cap ∧ cap ≤ maxLen ∧ (0 < len → ∃ b off, a = some ⟨b, off, none⟩ ∧ b < w.heap.size ∧ ∀ i, i < len → DeedAt w b (off + i * 4) (F i))
section
variable {H : Type} {enc : TypeId × Value → H} {w : World} {base : Nat} {spare : Nat → Bool} {held : Bool}
/-- field j of element i stands in the cell i * (the number of fields) + j, and reads by its own type -/
theorem struct_row {P : Program} {t e : TypeId} {fs : Array Field} {fuel : Nat} {cs : List Value} {x : DataW H × List MemPlace} (ht : P.underlying t = some (.slice e)) (he : P.underlying e = some (.struct fs)) (hone : oneCellFields P fs = true) (hC : P.cellsOf e = fs.size)
    (h : DataW.trod enc P w base spare held fuel t cs = some x) :
    cs = [.slice none 0 0] ∨ ∃ (a : Addr) (len cap : Nat), cs = [.slice (some a) len cap] ∧ len ≤ cap ∧ cap ≤ maxLen ∧
      ∀ i, i < len → ∀ (j : Nat) (f : Field), fs[j]? = some f → ∃ (v : Value) (n : Nat) (y : DataW H × List MemPlace), w.cell? (a.add (i * fs.size + j)) = some v ∧ DataW.trod enc P w base spare held n f.type [v] = some y := by
  rcases open_slice ht h with ⟨h0, _⟩ | ⟨a, len, cap, m, n, D, Pl, hcs, _, hl, hm, hmm, _, hi⟩
  · exact .inl h0
  · refine .inr ⟨a, len, cap, hcs, hl, hm, fun i hil j f hj => ?_⟩
    obtain ⟨cs', hc, ht'⟩ := hi i (by rw [hmm]; split <;> omega)
    rw [hC] at hc
    obtain ⟨ys, n', _, _, _, hyl, hf⟩ := DataW.trod_struct he ht'
    obtain ⟨_, hcl, hat⟩ := World.cells?_some hc
    obtain ⟨ho, hk⟩ := hone_of hone j f hj
    have hjl : j < fs.size := (Array.getElem?_eq_some_iff.1 hj).1
    have hjc : j < cs'.length := by omega
    have hjy : j < ys.length := by omega
    have h1 := hf j f hj
    rw [ho, hk, List.drop_eq_getElem_cons hjc] at h1
    refine ⟨cs'[j], n', ys[j], ?_, ?_⟩
    · rw [← Go.Deep.add_add, hat j hjl, List.getElem?_eq_getElem hjc]
    · rw [← List.getElem?_eq_getElem hjy, ← h1]
      rfl
theorem deeds_of_arg {a : Option Addr} {len cap : Nat} {d : DataW H} {p : List MemPlace} (h : DataW.Trod enc Try.prog w base spare held 23 (.slice a len cap) d p) :
    ∃ F, DdRow w a len cap F := by
  obtain ⟨fuel, hf⟩ := h
  have hz : Nonempty Deed := ⟨⟨0, 0, 0, none, 0, 0, fun _ => 0⟩⟩
  rcases struct_row Try.underlying23 Try.underlying36 (by kernel_rfl) (by kernel_rfl) hf with h0 | ⟨x, l, c, hcs, hl, hm, hi⟩
  · simp [Value.cells] at h0
    obtain ⟨rfl, rfl, rfl⟩ := h0
    exact ⟨fun _ => ⟨0, 0, 0, none, 0, 0, fun _ => 0⟩, Nat.le_refl _, Nat.zero_le _, fun h => by omega⟩
  · simp [Value.cells] at hcs
    obtain ⟨rfl, rfl, rfl⟩ := hcs
    rcases Nat.eq_zero_or_pos len with h0 | h0
    · exact ⟨fun _ => ⟨0, 0, 0, none, 0, 0, fun _ => 0⟩, hl, hm, fun h => by omega⟩
    · have hall : ∀ i, i < len → ∃ X : Deed, w.cell? (x.add (i * 4)) = some (.int .u8 (X.kd : Int)) ∧ w.cell? (x.add (i * 4 + 1)) = some (.int .i64 X.x) ∧ w.cell? (x.add (i * 4 + 2)) = some (.int .i64 X.y) ∧ w.cell? (x.add (i * 4 + 3)) = some (.slice X.B X.ln X.lc) ∧ X.kd < 256 ∧ (-9223372036854775808 ≤ X.x ∧ X.x ≤ 9223372036854775807) ∧ (-9223372036854775808 ≤ X.y ∧ X.y ≤ 9223372036854775807) ∧ Wrd w X.B X.ln X.lc X.f := fun i hil => by
        obtain ⟨v0, n0, y0, u0, t0⟩ := hi i hil 0 _ rfl
        obtain ⟨v1, n1, y1, u1, t1⟩ := hi i hil 1 _ rfl
        obtain ⟨v2, n2, y2, u2, t2⟩ := hi i hil 2 _ rfl
        obtain ⟨v3, n3, y3, u3, t3⟩ := hi i hil 3 _ rfl
        obtain ⟨q0, e0, _, b0⟩ := DataW.trod_int Try.underlying5 t0
        obtain ⟨q1, e1, _, b1⟩ := DataW.trod_int Try.underlying3 t1
        obtain ⟨q2, e2, _, b2⟩ := DataW.trod_int Try.underlying3 t2
        injection e0 with e0
        injection e1 with e1
        injection e2 with e2
        obtain ⟨B, ln, lc, f, e3, hW⟩ := wrd_of_trod t3
        subst e0 e1 e2 e3
        have k0 := wf_u8 b0
        have k1 := bounds_i64 b1
        have k2 := bounds_i64 b2
        refine ⟨⟨q0.toNat, q1, q2, B, ln, lc, f⟩, ?_, u1, u2, u3, by show q0.toNat < 256; omega, by show _ ∧ _; omega, by show _ ∧ _; omega, hW⟩
        refine Eq.trans u0 ?_
        show some (Value.int .u8 q0) = some (Value.int .u8 ((q0.toNat : Nat) : Int))
        rw [Int.toNat_of_nonneg k0.1]
      obtain ⟨X0, hc0, _⟩ := hall 0 h0
      have hspot := World.cell?_spot hc0
      have hlt := lt_of_cell hc0
      obtain ⟨b, off, spot⟩ := x
      have hs : spot = none := by simpa [Addr.add] using hspot
      subst hs
      rw [addr_add] at hlt
      have hex : ∀ i, ∃ X : Deed, i < len → DeedAt w b (off + i * 4) X := fun i => by
        by_cases hil : i < len
        · obtain ⟨X, u0, u1, u2, u3, k0, k1, k2, k3⟩ := hall i hil
          rw [addr_add] at u0 u1 u2 u3
          exact ⟨X, fun _ => ⟨u0, u1, u2, u3, k0, k1, k2, k3⟩⟩
        · exact ⟨⟨0, 0, 0, none, 0, 0, fun _ => 0⟩, fun q => absurd q hil⟩
      exact ⟨fun i => Classical.choose (hex i), hl, hm, fun _ => ⟨b, off, rfl, hlt, fun i hil => Classical.choose_spec (hex i) hil⟩⟩
end
theorem app_run38 {w : World} {B n m c : Nat} {v : Value} {xs ys : List Value} {X : Option Addr} (hown : w.ownsRow B 38 1 v n xs) (hl : ys.length = m) (hys : ∀ j u, ys[j]? = some u → ∃ a, X = some a ∧ w.cell? (a.add j) = some u) (hX : X = none → m = 0) (h1 : ∀ u ∈ ys, u.oneCell' = true) (hnm : n + m ≤ 1000000) (hB : B ≤ w.heap.size) :
    ∃ v' w', Hid (∀ ty, (Builtin.append_ #[34, 34] ty #[v, .slice X m c]).run Try.prog w = .ok v' w') ∧ w'.ownsRow B 38 1 v' (n + m) (xs ++ ys) ∧ w.grownBy w' v.ownBlock := by
  obtain ⟨i0, hi, hz0, hz1, hz2⟩ := info_parts info38
  cases X with
  | none =>
    obtain rfl := hX rfl
    obtain rfl : ys = [] := List.eq_nil_of_length_eq_zero hl
    refine ⟨v, w, Lib.hid (fun ty => ?_), by rw [List.append_nil]; exact hown, World.grownBy.refl _ _⟩
    rcases hown.2 with ⟨rfl, rfl⟩ | ⟨g, cap, cur, rfl, _, _, hnc, _⟩
    · simp [Builtin.append_, run_underlying Try.underlying34, sizeOf, typeInfo, hi, Builtin.lenOf, Builtin.firstCells]
    · simp [Builtin.append_, run_underlying Try.underlying34, sizeOf, typeInfo, hi, Builtin.lenOf, Builtin.firstCells, hnc, storeCells]
  | some a =>
    obtain ⟨v', w', h, h2, h3, _⟩ := run_append_own_at (P := Try.prog) w B 34 34 38 i0 _ 1 8 Try.underlying34 hi hz0 hz1 hz2 rfl (by decide) v n xs hown a m c ys (by omega) (fun j u hj => by
      obtain ⟨a', e, he⟩ := hys j u hj
      injection e with e
      rw [e]; exact he) h1 (by unfold maxLen; omega) (by omega) hB
    exact ⟨v', w', Lib.hid (fun ty => h), h2, h3⟩
/-- n words, as cells -/
def rowsW (F : Nat → Nat) (n : Nat) : List Value := (List.range n).map fun j => U64 (F j)
theorem rowsW_len (F : Nat → Nat) (n : Nat) : (rowsW F n).length = n := by simp [rowsW]
theorem rowsW_get (F : Nat → Nat) {n i : Nat} (h : i < n) : (rowsW F n)[i]? = some (U64 (F i)) := by
  unfold rowsW
  rw [List.getElem?_map, List.getElem?_range h]; rfl
theorem rowsW_one (F : Nat → Nat) (n : Nat) : ∀ u ∈ rowsW F n, u.oneCell' = true := by
  intro u hu
  unfold rowsW at hu
  rw [List.mem_map] at hu
  obtain ⟨j, _, rfl⟩ := hu
  rfl
theorem rowsW_ext {F : Nat → Nat} {n : Nat} {l : List Value} (h : ∀ i, i < n → l[i]? = some (U64 (F i))) (hl : l.length = n) : l = rowsW F n := by
  apply List.ext_getElem?
  intro i
  by_cases hi : i < n
  · rw [h i hi, rowsW_get F hi]
  · rw [List.getElem?_eq_none (by omega), List.getElem?_eq_none (by rw [rowsW_len]; omega)]
theorem rowsW_app (F : Nat → Nat) (f : Nat → Nat) (n m : Nat) : rowsW F n ++ rowsW f m = rowsW (fun j => if j < n then F j else f (j - n)) (n + m) := by
  apply rowsW_ext
  · intro i hi
    by_cases h : i < n
    · rw [List.getElem?_append_left (by rw [rowsW_len]; exact h), rowsW_get F h, if_pos h]
    · rw [List.getElem?_append_right (by rw [rowsW_len]; omega), rowsW_len, rowsW_get f (by omega), if_neg h]
  · rw [List.length_append, rowsW_len, rowsW_len]
theorem rowsW_congr {F G : Nat → Nat} (n : Nat) (h : ∀ j, j < n → F j = G j) : rowsW F n = rowsW G n :=
  rowsW_ext (fun i hi => by rw [rowsW_get F hi, h i hi]) (rowsW_len F n)
theorem rowsW_set (F : Nat → Nat) (n i v : Nat) : (rowsW F n).set i (U64 v) = rowsW (fun j => if j = i then v else F j) n := by
  apply rowsW_ext
  · intro j hj
    rw [List.getElem?_set]
    by_cases h : i = j
    · subst h
      rw [if_pos rfl, if_pos (by rw [rowsW_len]; exact hj), if_pos rfl]
    · rw [if_neg h, rowsW_get F hj, if_neg (fun q => h q.symm)]
  · simp [rowsW_len]
theorem own_cellW {w : World} {B g n c : Nat} {F : Nat → Nat} (h : w.ownsRow B 38 1 (.slice (some ⟨g, 0, none⟩) n c) n (rowsW F n)) (j : Nat) (hj : j < n) :
    w.cell? ⟨g, j, none⟩ = some (.int .u64 ((F j : Nat) : Int)) := by
  rcases h.2 with ⟨e, _⟩ | ⟨g', cap, cur, e, hB, hg, hc, hm, hs, ht⟩
  · cases e
  · injection e with e1 e2 e3
    injection e1 with e1
    injection e1 with e1
    subst e1
    have := rowsW_get F hj
    rw [← ht, List.getElem?_take_of_lt (by omega)] at this
    rw [Blk.cell hg, ← Array.getElem?_toList]
    exact this
theorem own_frozenW {w : World} {B g n c : Nat} {xs : List Value} (h : w.ownsRow B 38 1 (.slice (some ⟨g, 0, none⟩) n c) n xs) (i : Nat) : w.frozen? ⟨g, i, none⟩ = false := by
  rcases h.2 with ⟨e, _⟩ | ⟨g', cap, cur, e, hB, hg, hc, hm, hs, ht⟩
  · cases e
  · injection e with e1 e2 e3
    injection e1 with e1
    injection e1 with e1
    subst e1
    exact Blk.frozen hg i
theorem own_setW {w : World} {B g n c i : Nat} {F : Nat → Nat} {p : Nat} (h : w.ownsRow B 38 1 (.slice (some ⟨g, 0, none⟩) n c) n (rowsW F n)) (hi : i < n) :
    (w.setCell ⟨g, i, none⟩ (U64 p)).ownsRow B 38 1 (.slice (some ⟨g, 0, none⟩) n c) n (rowsW (fun j => if j = i then p else F j) n) := by
  refine ⟨by rw [rowsW_len]; omega, ?_⟩
  rcases h.2 with ⟨e, _⟩ | ⟨g', cap, cur, e, hB, hg, hc, hm, hs, ht⟩
  · cases e
  · injection e with e1 e2 e3
    injection e1 with e1
    injection e1 with e1
    subst e1 e3
    refine .inr ⟨g, c, cur.setIfInBounds i (U64 p), rfl, hB, Blk.set_ hg _ _, hc, hm, by simpa using hs, ?_⟩
    rw [← rowsW_set, ← ht, Array.toList_setIfInBounds, list_take_set _ _ _ _ (by omega)]
section
variable {w w' : World} {a bb rm gm : Nat} {d : Ad} {s at_ cells h : Nat} {B n : Nat} {v : Value} {xs : List Value}
theorem own38_step (H : SkI w a bb rm gm d s at_ cells h) (ho : w.ownsRow B 38 1 v n xs) (hf : Fr (fun k => k = bb ∨ k = s) w w') : w'.ownsRow B 38 1 v n xs :=
  ownG_fr ho hf (fun k hk => by
    obtain ⟨cs, hcs⟩ := ownG_ty ho hk
    rintro (q | q)
    · rw [q] at hcs; exact hcs.ne_ H.are.byt (by decide) rfl
    · rw [q] at hcs; exact hcs.ne_ H.blk (by decide) rfl)
theorem SkI.fr38 {S : Nat → Prop} (H : SkI w a bb rm gm d s at_ cells h) (hf : Fr S w w') (hS : ∀ k, S k → ∃ cs, Blk w k 38 cs) : SkI w' a bb rm gm d s at_ cells h := by
  refine ⟨H.are.fr hf ?_, H.blk.fr hf (fun q => ?_), H.hh, H.hc, H.room⟩
  · intro k hk q
    obtain ⟨cs, hg⟩ := hS k q
    rcases hk with q | q | q | q | ⟨c, hc, q⟩
    · rw [q] at hg; exact hg.ne_ H.are.blk (by decide) rfl
    · rw [q] at hg; exact hg.ne_ H.are.byt (by decide) rfl
    · obtain ⟨n, _, hi⟩ := H.are.rooms
      rw [q] at hg
      exact hi.ne_ hg rfl
    · obtain ⟨n, _, hi⟩ := H.are.given
      rw [q] at hg
      exact hi.ne_ hg rfl
    · obtain ⟨g', cap, cur, e, hg', _⟩ := H.are.row hc
      rw [e] at q
      simp only [Value.ownBlock, Option.some.injEq] at q
      rw [← q] at hg
      exact hg'.ne_ hg (by decide) rfl
  · obtain ⟨cs, hg⟩ := hS s q
    exact hg.ne_ H.blk (by decide) rfl
theorem SkI.grown (H : SkI w a bb rm gm d s at_ cells h) (ho : w.ownsRow B 38 1 v n xs) (hg : w.grownBy w' v.ownBlock) : SkI w' a bb rm gm d s at_ cells h :=
  H.fr38 (FrGrown hg) (fun k hk => ownG_ty ho hk)
theorem Lo.grown38 {w0 : World} (H : Lo w0 w bb s) (ho : w.ownsRow w0.heap.size 38 1 v n xs) (hg : w.grownBy w' v.ownBlock) : Lo w0 w' bb s :=
  ⟨(FrGrown hg).below H.bel H.bel.size (fun k hk => ownG_base ho hk), H.hb, H.hs⟩
end
theorem SkI.set38 {w : World} {a bb rm gm : Nat} {d : Ad} {s at_ cells h B g n c i : Nat} {xs : List Value} (H : SkI w a bb rm gm d s at_ cells h) (ho : w.ownsRow B 38 1 (.slice (some ⟨g, 0, none⟩) n c) n xs) (u : Value) : SkI (w.setCell ⟨g, i, none⟩ u) a bb rm gm d s at_ cells h :=
  H.fr38 ((Fr.refl (· = g) w).set_ (p := ⟨g, i, none⟩) rfl u) (fun k hk => by rw [hk]; exact ownG_ty ho rfl)
theorem Lo.set38 {w0 w : World} {bb s g n c i : Nat} {xs : List Value} (H : Lo w0 w bb s) (ho : w.ownsRow w0.heap.size 38 1 (.slice (some ⟨g, 0, none⟩) n c) n xs) (u : Value) : Lo w0 (w.setCell ⟨g, i, none⟩ u) bb s :=
  ⟨((Fr.refl (· = g) w).set_ (p := ⟨g, i, none⟩) rfl u).below H.bel H.bel.size (fun k hk => by rw [hk]; exact ownG_base ho rfl), H.hb, H.hs⟩
noncomputable def spBlk (n : Nat) : Code := ((Try.f3.body.bind (fromBlk n)).getD .skip)
/-- what is known in a round: the words, the row m, where all lies -/
structure SPI (w0 w : World) (a bb rm gm s cells : Nat) (D : Ad) (n : Nat) (F : Nat → Nat) (v : Value) : Prop where
  sk : ∃ M, SkI w a bb rm gm { D with mem := M } s 0 cells n ∧ Con { D with mem := M } 0 n F
  rt : ∀ j, j < n → F j < 18446744073709551616
  own : w.ownsRow w0.heap.size 38 1 v n (rowsW F n)
  lo : Lo w0 w bb s
theorem SPI.mv {w0 w w' : World} {a bb rm gm s cells n : Nat} {D : Ad} {F : Nat → Nat} {v : Value} (H : SPI w0 w a bb rm gm s cells D n F v) (hb : Below w.heap.size w w') : SPI w0 w' a bb rm gm s cells D n F v := by
  obtain ⟨M, h1, h2⟩ := H.sk
  exact ⟨⟨M, h1.below hb, h2⟩, H.rt, ownG_mv H.own hb, H.lo.mv hb⟩
theorem SPI.dr {w0 w : World} {a bb rm gm s cells n : Nat} {D : Ad} {F : Nat → Nat} {v : Value} (H : SPI w0 w a bb rm gm s cells D n F v) (k : Nat) : SPI w0 (w.drewN k) a bb rm gm s cells D n F v :=
  H.mv ⟨rfl, rfl, rfl, Nat.le_refl _, fun _ _ => rfl⟩
/-- a slice of words that the call was given still reads so -/
theorem Wrd.mv {w w' : World} {A : Option Addr} {n cap : Nat} {f : Nat → Nat} (h : Wrd w A n cap f) (hb : Below w.heap.size w w') : Wrd w' A n cap f :=
  ⟨h.1, h.2.1, h.2.2.1, fun hn => by
    obtain ⟨b, off, e, hl, hc⟩ := h.2.2.2 hn
    exact ⟨b, off, e, Nat.lt_of_lt_of_le hl hb.size, fun j hj => (hb.cell (p := ⟨b, off + j, none⟩) hl).trans (hc j hj)⟩⟩
theorem Wrd.src {w : World} {A : Option Addr} {n cap : Nat} {f : Nat → Nat} (h : Wrd w A n cap f) : ∀ j u, (rowsW f n)[j]? = some u → ∃ a, A = some a ∧ w.cell? (a.add j) = some u := by
  intro j u hj
  have hlt : j < n := by
    have := (List.getElem?_eq_some_iff.1 hj).1
    rw [rowsW_len] at this
    exact this
  obtain ⟨b, off, e, hl, hc⟩ := h.2.2.2 (by omega)
  refine ⟨_, e, ?_⟩
  rw [addr_add, hc j hlt, ← hj, rowsW_get f hlt]
theorem wrd_own {w : World} {B n : Nat} {v : Value} {F : Nat → Nat} (h : w.ownsRow B 38 1 v n (rowsW F n)) (hF : ∀ j, j < n → F j < 18446744073709551616) : ∃ A c, v = .slice A n c ∧ Wrd w A n c F := by
  rcases h.2 with ⟨e, h0⟩ | ⟨g, cap, cur, e, hB, hg, hc, hm, hs, ht⟩
  · subst h0
    exact ⟨_, _, e, Nat.le_refl _, Nat.zero_le _, fun i hi => by omega, fun hi => by omega⟩
  · subst e
    refine ⟨_, _, rfl, hc, hm, hF, fun hn => ⟨g, 0, rfl, Blk.lt hg, fun j hj => ?_⟩⟩
    rw [Nat.zero_add]
    exact own_cellW h j hj
end Go.Proofs.Ythfdblpodnodcaa
