/-
  slices.SortFunc at rows of pages: the row holds the same pages behind it.
-/
import Derived.Test.YtlnffcledpccjaaDc
import Derived.Test.YtlnffcledpccjaaSl
import Derived.Shelf.SlSortCmp.WholeK
import Derived.Shelf.SlSortCmp.NoneTotal
namespace Go.Proofs.Ytlnffcledpccjaa
open Go.RowKit Go.Shelf Go.Lib Go.Sort
set_option linter.unusedVariables false
theorem flat_get : ∀ (L : List (Nat × Nat)) (i c : Nat), i < L.length → c < 2 → (L.flatMap encPg)[i * 2 + c]? = (encPg (L.getD i (0, 0)))[c]?
  | x :: L, 0, c, h, hc => by
    rw [List.flatMap_cons, Nat.zero_mul, Nat.zero_add, List.getElem?_append_left (by simpa [encPg] using hc)]
    rfl
  | x :: L, i + 1, c, h, hc => by
    rw [List.flatMap_cons, List.getElem?_append_right (by simp [encPg]; omega)]
    have h' : i < L.length := by simpa using h
    have e : (i + 1) * 2 + c - (encPg x).length = i * 2 + c := by simp [encPg]; omega
    rw [e, flat_get L i c h' hc]
    rfl
theorem flatK_of (L : List (Nat × Nat)) : flatK encPg 2 L.toArray = (L.flatMap encPg).toArray := by
  refine ext_get! (by rw [size_flatK, List.size_toArray, List.size_toArray, encs_len]) fun t ht => ?_
  have ht' : t < L.length * 2 := by rw [size_flatK, List.size_toArray] at ht; exact ht
  have h2 : t / 2 < L.length := by omega
  have := flat_get L (t / 2) (t % 2) h2 (by omega)
  rw [show t / 2 * 2 + t % 2 = t by omega] at this
  have hR : (L.flatMap encPg).toArray[t]! = (L.flatMap encPg)[t]?.getD default := by simp
  have hL : L.toArray[t / 2]! = L.getD (t / 2) (0, 0) := by
    rw [List.getD_eq_getElem?_getD, List.getElem?_eq_getElem h2]
    simp [h2]
  rw [get_flatK _ _ _ _ (by rw [List.size_toArray]; exact ht'), hR, this, hL]
  exact List.getElem!_eq_getElem?_getD
theorem sort_ok : SortOk := by
  intro v L B w hl ho
  rcases ho.2 with ⟨e, h0⟩ | ⟨g, cap, cur, e, hB, hg, h1, h2, h3, h4⟩
  · have hL : L = [] := List.eq_nil_of_length_eq_zero h0
    subst e hL
    have hcon := AnyF.slices_SortFunc_none Try.sortPg none 0 (.func (.func 65) #[] #[]) w
    change Calls Try.prog 64 _ _ _ at hcon
    refine hcon.mono ?_
    rintro e w' ⟨rfl, rfl⟩
    exact ⟨rfl, [], .refl _, .inl ⟨rfl, rfl⟩, Fr.refl _ _⟩
  · subst e
    have hlt : g < w.heap.size := by
      rcases Nat.lt_or_ge g w.heap.size with q | q
      · exact q
      · rw [Array.getElem?_eq_none q] at hg; cases hg
    have hblk : Blk w g 104 cur := hg
    have hH : HoldsK encPg 2 w g 0 L.toArray := by
      intro j hj
      rw [flatK_of] at hj ⊢
      have hj' : j < (L.flatMap encPg).length := by simpa using hj
      rw [Nat.zero_add]
      refine ⟨?_, hblk.frozen j⟩
      rw [hblk.cell]
      have h5 : (L.flatMap encPg)[j]? = cur[j]? := by
        rw [← h4, List.getElem?_take_of_lt (by rw [encs_len] at hj'; exact hj'), Array.getElem?_toList]
      have hR : (L.flatMap encPg).toArray[j]! = (L.flatMap encPg)[j]?.getD default := by simp
      rw [← h5, id_eq, hR, List.getElem?_eq_getElem hj']
      rfl
    have eg : ∀ args w, (callFunc 65 args).run Try.prog w = .ok (.enter 65 args) w := enters_of Try.func65 (by kernel_rfl) rfl
    have hcon := AnyQ.slices_SortFunc Try.sortPg 2 Try.isAgg104 Try.sizeOf104 encPg (fun _ => rfl) encPg_one (fun x y : Nat × Nat => compareInt x.2 y.2) swoPg 65 #[] g 0 cap L.toArray w eg (cmpLays65 g 0 _ w) hH hlt (by rw [List.size_toArray]; omega)
    change Calls Try.prog 64 _ _ _ at hcon
    rw [List.size_toArray] at hcon
    refine hcon.mono ?_
    rintro e w' ⟨rfl, d', n, os, hp, -, rfl⟩
    have hf := sortW_fr w g 0 n d' os
    have hsz : d'.size = L.length := by have := hp.1; simpa using this
    have hpm : d'.toList.Perm L := by
      have := hp.2.2
      rw [show d'.extract 0 L.length = d' by rw [← hsz]; simp, show L.toArray.extract 0 L.length = L.toArray by simp] at this
      simpa using this
    have hln : d'.toList.length = L.length := hpm.length_eq
    have hh : HoldsK encPg 2 (sortWorldK encPg 2 w g 0 n d' os) g 0 d' := (show SWK encPg 2 w g 0 d' _ from ⟨n, os, rfl⟩).holds hlt hH (by rw [hsz]; simp)
    have hget : ∀ i, i < d'.toList.length → d'[i]! = d'.toList.getD i (0, 0) := fun i hi => by
      rw [Array.getElem!_eq_getD, Array.getD_eq_getD_getElem?, List.getD_eq_getElem?_getD, Array.getElem?_toList]
      rfl
    refine ⟨rfl, d'.toList, hpm, .inr ⟨g, cap, by rw [hln], by rw [hln]; exact h1, h2, Nat.lt_of_lt_of_le hlt hf.size, fun i hi => ?_⟩, hf.more (fun q hq => by rw [hq]; rfl)⟩
    have hi' : i < d'.size := by simpa using hi
    have e0 := (hh.cell hi' (show 0 < 2 by decide)).1
    have e1 := (hh.cell hi' (show 1 < 2 by decide)).1
    rw [hget i hi] at e0 e1
    rw [Nat.zero_add] at e0 e1
    exact ⟨e0, e1⟩
end Go.Proofs.Ytlnffcledpccjaa
