/-
  Bytes put in a piece of memory; a page is brought into a frame; bytes of a standing page are written (plain facts).
-/
import Derived.Test.YtlnffcledpccjaaGh
namespace Go.Proofs.Ytlnffcledpccjaa
open Go.RowKit
set_option linter.unusedVariables false
theorem putM_get {mem l : List Nat} {p : Nat} (h : p + l.length ≤ mem.length) (q : Nat) : (putM mem p l)[q]? = if q < p then mem[q]? else if q < p + l.length then l[q - p]? else mem[q]? := by
  unfold putM
  by_cases h1 : q < p
  · rw [if_pos h1, List.getElem?_append_left (by rw [List.length_take]; omega), List.getElem?_take_of_lt h1]
  · rw [if_neg h1, List.getElem?_append_right (by rw [List.length_take]; omega), List.length_take, show q - min p mem.length = q - p from by omega]
    by_cases h2 : q < p + l.length
    · rw [if_pos h2, List.getElem?_append_left (by omega)]
    · rw [if_neg h2, List.getElem?_append_right (by omega), List.getElem?_drop]
      congr 1
      omega
theorem putM_len {mem l : List Nat} {p : Nat} (h : p + l.length ≤ mem.length) : (putM mem p l).length = mem.length := by
  unfold putM
  simp
  omega
theorem slice_get (mem : List Nat) (r sz q : Nat) : ((mem.drop r).take sz)[q]? = if q < sz then mem[r + q]? else none := by
  by_cases h : q < sz
  · rw [if_pos h, List.getElem?_take_of_lt h, List.getElem?_drop]
  · rw [if_neg h, List.getElem?_eq_none (by rw [List.length_take]; omega)]
theorem putM_in' {mem l : List Nat} {r o sz : Nat} (h : r + sz ≤ mem.length) (ha : o + l.length ≤ sz) : ((putM mem (r + o) l).drop r).take sz = putM ((mem.drop r).take sz) o l := by
  apply List.ext_getElem?
  intro q
  have hl : ((mem.drop r).take sz).length = sz := by rw [List.length_take, List.length_drop]; omega
  rw [slice_get, putM_get (by omega), putM_get (by omega), slice_get]
  by_cases h1 : q < sz
  · rw [if_pos h1, if_pos h1]
    by_cases h2 : q < o
    · rw [if_pos h2, if_pos (by omega)]
    · rw [if_neg h2, if_neg (by omega)]
      by_cases h3 : q < o + l.length
      · rw [if_pos h3, if_pos (by omega), show r + q - (r + o) = q - o from by omega]
      · rw [if_neg h3, if_neg (by omega)]
  · rw [if_neg h1, if_neg h1, if_neg (by omega), if_neg (by omega)]
theorem putM_all {X l : List Nat} (h : l.length = X.length) : putM X 0 l = l := by
  unfold putM
  rw [List.drop_eq_nil_of_le (by omega)]
  simp
theorem putM_out {mem l : List Nat} {p r sz : Nat} (h : p + l.length ≤ mem.length) (hd : r + sz ≤ p ∨ p + l.length ≤ r) : ((putM mem p l).drop r).take sz = (mem.drop r).take sz := by
  apply List.ext_getElem?
  intro q
  rw [slice_get, slice_get]
  by_cases h1 : q < sz
  · rw [if_pos h1, if_pos h1, putM_get h]
    rcases hd with hd | hd
    · rw [if_pos (by omega)]
    · rw [if_neg (by omega), if_neg (by omega)]
  · rw [if_neg h1, if_neg h1]
/-- page x is brought into frame j -/
def Pd.brg (d : Pd) (j : Nat) (x : Nat × Nat) : Pd := { d with st := upd d.st x (some j), pg := fun k => if k = j then x else d.pg k, tk := setB d.tk j true }
theorem PI.brg {d : Pd} {mem : List Nat} {C : Nat × Nat → List Nat} {W : List (Nat × Nat)} (h : PI d mem C W (fun _ => False)) {j : Nat} {x : Nat × Nat} (hj : j < d.n) (ht : d.tk j = false) (hx : d.st x = none) (hs : small x) : PI (d.brg j x) (putM mem (d.room j) (C x)) C W (fun _ => False) := by
  have hl := (h.len x).1
  have hr := h.rin j hj
  have hpl : d.room j + (C x).length ≤ mem.length := by omega
  have hpj : (d.brg j x).pg j = x := by simp [Pd.brg]
  have hpo : ∀ k, k ≠ j → (d.brg j x).pg k = d.pg k := fun k hk => by simp [Pd.brg, hk]
  have hto : ∀ k, k ≠ j → (d.brg j x).tk k = d.tk k := fun k hk => by simp [Pd.brg, setB, hk]
  have hcj := h.un j hj ht
  refine ⟨fun i hi => by rw [putM_len hpl]; exact h.rin i hi, h.rap, fun y i => ?_, fun i hi => ?_, h.len, fun i hi hti _ => ?_, h.bin, h.inj, fun y id hE hy hb => ?_, fun y hE hy hb => ?_, fun i hi hti hE hc => ?_, h.wb, fun i hi hti hc => ?_, fun i hi hti => ?_⟩
  · show upd d.st x (some j) y = some i ↔ i < d.n ∧ (d.brg j x).tk i = true ∧ (d.brg j x).pg i = y
    by_cases e : y = x
    · subst e
      rw [upd_same]
      constructor
      · intro q
        injection q with q
        subst q
        exact ⟨hj, by simp [Pd.brg, setB], hpj⟩
      · rintro ⟨q1, q2, q3⟩
        by_cases ei : i = j
        · rw [ei]
        · rw [hpo i ei] at q3
          rw [hto i ei] at q2
          have := (h.st y i).2 ⟨q1, q2, q3⟩
          rw [hx] at this; cases this
    · rw [upd_other _ _ _ e, h.st y i]
      constructor
      · rintro ⟨q1, q2, q3⟩
        have ei : i ≠ j := fun q => by rw [q, ht] at q2; cases q2
        exact ⟨q1, by rw [hto i ei]; exact q2, by rw [hpo i ei]; exact q3⟩
      · rintro ⟨q1, q2, q3⟩
        by_cases ei : i = j
        · rw [ei, hpj] at q3; exact absurd q3.symm e
        · exact ⟨q1, by rw [← hto i ei]; exact q2, by rw [← hpo i ei]; exact q3⟩
  · by_cases ei : i = j
    · rw [ei, hpj]; exact hs
    · rw [hpo i ei]; exact h.sm i hi
  · show ((putM mem (d.room j) (C x)).drop (d.room i)).take d.sd.size = C ((d.brg j x).pg i)
    by_cases ei : i = j
    · subst ei
      rw [hpj]
      have := putM_in' (mem := mem) (l := C x) (r := d.room i) (o := 0) (sz := d.sd.size) hr (by omega)
      rw [Nat.add_zero] at this
      rw [this, putM_all (by rw [List.length_take, List.length_drop]; omega)]
    · rw [hpo i ei]
      rw [putM_out hpl (by have := h.rap i j hi hj ei; rw [hl]; exact this)]
      exact h.cont i hi (by rw [← hto i ei]; exact hti) (fun q => q)
  · have e : y ≠ x := fun q => by
      have hy' : upd d.st x (some j) y = none := hy
      rw [q, upd_same] at hy'; cases hy'
    exact h.cb y id hE (by rw [← hy]; exact (upd_other _ _ _ e).symm) hb
  · have e : y ≠ x := fun q => by
      have hy' : upd d.st x (some j) y = none := hy
      rw [q, upd_same] at hy'; cases hy'
    exact h.cz y hE (by rw [← hy]; exact (upd_other _ _ _ e).symm) hb
  · by_cases ei : i = j
    · subst ei
      rw [hpj]
      exact ⟨fun id hid => (h.cb x id (fun q => q) hx hid).1, fun hn => h.cz x (fun q => q) hx hn⟩
    · rw [hpo i ei]
      exact h.cl i hi (by rw [← hto i ei]; exact hti) (fun q => q) hc
  · by_cases ei : i = j
    · subst ei
      have hc' : d.ch i = true := hc
      rw [hcj] at hc'; cases hc'
    · rw [hpo i ei]
      exact h.wc i hi (by rw [← hto i ei]; exact hti) hc
  · by_cases ei : i = j
    · simp [Pd.brg, setB, ei] at hti
    · exact h.un i hi (by rw [← hto i ei]; exact hti)
/-- the page that stands in frame i is written -/
theorem PI.write {d : Pd} {mem : List Nat} {C : Nat × Nat → List Nat} {W : List (Nat × Nat)} (h : PI d mem C W (fun _ => False)) {i o : Nat} {l : List Nat} {b : Bool} (hi : i < d.n) (ht : d.tk i = true) (ho : o + l.length ≤ d.sd.size) (hx : ∀ y ∈ l, y < 256) (hb : b = (d.ch i || decide (0 < l.length))) :
    PI { d with ch := setB d.ch i b } (putM mem (d.room i + o) l) (upd C (d.pg i) (putM (C (d.pg i)) o l)) (d.pg i :: W) (fun _ => False) := by
  have hl := (h.len (d.pg i)).1
  have hr := h.rin i hi
  have hpl : d.room i + o + l.length ≤ mem.length := by omega
  have hne : ∀ y, d.st y = none → y ≠ d.pg i := fun y hy e => by rw [e, h.stand hi ht] at hy; cases hy
  have hinj : ∀ k, k < d.n → d.tk k = true → d.pg k = d.pg i → k = i := fun k hk htk e => by
    have h1 := h.stand hk htk
    rw [e, h.stand hi ht] at h1
    exact (Option.some.inj h1).symm
  refine ⟨fun k hk => by rw [putM_len hpl]; exact h.rin k hk, h.rap, h.st, h.sm, fun y => ?_, fun k hk htk _ => ?_, h.bin, h.inj, fun y id hE hy hq => ?_, fun y hE hy hq => ?_, fun k hk htk hE hc => ?_, fun y hy => List.mem_cons_of_mem _ (h.wb y hy), fun k hk htk hc => ?_, fun k hk htk => ?_⟩
  · by_cases e : y = d.pg i
    · rw [e, upd_same]
      refine ⟨by rw [putM_len (by omega)]; exact hl, fun z hz => ?_⟩
      unfold putM at hz
      rw [List.mem_append, List.mem_append] at hz
      rcases hz with q | q | q
      · exact (h.len _).2 z (List.mem_of_mem_take q)
      · exact hx z q
      · exact (h.len _).2 z (List.mem_of_mem_drop q)
    · rw [upd_other _ _ _ e]; exact h.len y
  · show ((putM mem (d.room i + o) l).drop (d.room k)).take d.sd.size = upd C (d.pg i) _ (d.pg k)
    by_cases ek : k = i
    · subst ek
      rw [upd_same, putM_in' hr ho, h.cont k hk htk (fun q => q)]
    · rw [upd_other _ _ _ (fun e => ek (hinj k hk htk e)), putM_out hpl ?_]
      · exact h.cont k hk htk (fun q => q)
      · have := h.rap k i hk hi ek
        omega
  · rw [upd_other _ _ _ (hne y hy)]
    exact h.cb y id hE hy hq
  · rw [upd_other _ _ _ (hne y hy)]
    exact h.cz y hE hy hq
  · show (∀ id, d.blk (d.pg k) = some id → d.sd.B id = some (upd C (d.pg i) _ (d.pg k))) ∧ (d.blk (d.pg k) = none → upd C (d.pg i) _ (d.pg k) = _)
    by_cases ek : k = i
    · subst ek
      have hc' : b = false := by simpa [setB] using hc
      rw [hc'] at hb
      have h1 : d.ch k = false := by cases q : d.ch k <;> simp [q] at hb ⊢
      have h2 : l = [] := by
        rcases Nat.eq_zero_or_pos l.length with q | q
        · exact List.eq_nil_of_length_eq_zero q
        · rw [h1, decide_eq_true q] at hb; cases hb
      have h3 : putM (C (d.pg k)) o l = C (d.pg k) := by
        rw [h2]; unfold putM
        simp
      rw [upd_same, h3]
      exact h.cl k hk htk (fun q => q) h1
    · have hc' : d.ch k = false := by simpa [setB, ek] using hc
      rw [upd_other _ _ _ (fun e => ek (hinj k hk htk e))]
      exact h.cl k hk htk (fun q => q) hc'
  · by_cases ek : k = i
    · rw [ek]; exact List.mem_cons_self
    · have hc' : d.ch k = true := by simpa [setB, ek] using hc
      exact List.mem_cons_of_mem _ (h.wc k hk htk hc')
  · have ek : k ≠ i := fun q => by
      have htk' : d.tk k = false := htk
      rw [q, ht] at htk'; cases htk'
    have := h.un k hk htk
    show setB d.ch i b k = false
    simp only [setB, if_neg ek]
    exact this
end Go.Proofs.Ytlnffcledpccjaa
