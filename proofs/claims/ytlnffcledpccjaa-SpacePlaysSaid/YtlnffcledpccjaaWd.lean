/-
  pager.Pager.load of a page that stands in no frame; bring.
-/
import Derived.Test.YtlnffcledpccjaaWc
namespace Go.Proofs.Ytlnffcledpccjaa
open Go.RowKit
set_option linter.unusedVariables false
set_option linter.unusedSimpArgs false
theorem PI.opd {d : Pd} {mem : List Nat} {C : Nat × Nat → List Nat} {W : List (Nat × Nat)} {E : Nat × Nat → Prop} (h : PI d mem C W E) : PI { d with sd := d.sd.op } mem C W E :=
  ⟨h.rin, h.rap, h.st, h.sm, h.len, h.cont, h.bin, h.inj, h.cb, h.cz, h.cl, h.wb, h.wc, h.un⟩
def LmPost (A : Pa) (d : Pd) (mem : List Nat) (C : Nat × Nat → List Nat) (W : List (Nat × Nat)) (x : Nat × Nat) (w : World) (e : Ending) (w' : World) : Prop :=
  ∃ (g : Nat) (d' : Pd), e = .returned (.tuple #[.slice (some ⟨g, 0, none⟩) d.sd.size d.sd.size, .int .i64 0]) ∧ w.heap.size ≤ g ∧ Byt w' (some ⟨g, 0, none⟩) d.sd.size d.sd.size (C x) ∧ Mv A d d' mem C W 1 w w' ∧ d'.st = d.st ∧ d'.tk = d.tk
theorem load_mid {w : World} {A : Pa} {d : Pd} {mem : List Nat} {C : Nat × Nat → List Nat} {W : List (Nat × Nat)} (h : Lay w A d) (hp : PI d mem C W (fun _ => False)) (a b : Nat) (hx : small (a, b)) (hn : d.st (a, b) = none) (ho : d.sd.ops < 1000000) :
    Calls Try.prog 87 #[.pointer (some ⟨A.p, 0, none⟩), .agg #[.int .i64 a, .int .i64 b]] w (LmPost A d mem C W (a, b) w) := by
  cases hb : d.blk (a, b) with
  | none =>
    refine (load_none h a b hx hb).mono ?_
    rintro e w' ⟨g, rfl, hg, hy, hl, hf⟩
    rw [← hp.cz (a, b) (fun q => q) hn hb] at hy
    exact ⟨g, d, rfl, hg, hy, ⟨hl, hp, rfl, rfl, rfl, rfl, Nat.le_add_right _ _, hf, fun k hk => .inl hk, fun _ q => ⟨q, rfl⟩⟩, rfl, rfl⟩
  | some id =>
    refine (load_some h a b id _ hx hb (hp.cb (a, b) id (fun q => q) hn hb).1 ho).mono ?_
    rintro e w' ⟨g, rfl, hg, hy, hl, hf⟩
    exact ⟨g, { d with sd := d.sd.op }, rfl, hg, hy, ⟨hl, hp.opd, rfl, rfl, rfl, rfl, Nat.le_refl _, hf, fun k hk => .inl hk, fun _ q => ⟨q, rfl⟩⟩, rfl, rfl⟩
/-- what is done with a pager, and the arena in which its frames lie -/
structure Mx (A : Pa) (d d' : Pd) (bb rm gm : Nat) (ad : Ad) (m' : List Nat) (C' : Nat × Nat → List Nat) (W' : List (Nat × Nat)) (N : Nat) (w w' : World) : Prop where
  lay : Lay w' A d'
  pi : PI d' m' C' W' (fun _ => False)
  are : Are w' A.a bb rm gm { ad with mem := m' }
  n : d'.n = d.n
  room : d'.room = d.room
  size : d'.sd.size = d.sd.size
  cap : d'.sd.cap = d.sd.cap
  ops : d'.sd.ops ≤ d.sd.ops + N
  fr : Fr (fun k => foot A d k ∨ k = bb) w w'
  ft : ∀ k, foot A d' k → foot A d k ∨ w.heap.size ≤ k
  len : m'.length = ad.mem.length
  out : ∀ q, (∀ i, i < d.n → q < d.room i ∨ d.room i + d.sd.size ≤ q) → m'[q]? = ad.mem[q]?
def BgPost (A : Pa) (d : Pd) (bb rm gm : Nat) (ad : Ad) (C : Nat × Nat → List Nat) (W : List (Nat × Nat)) (x : Nat × Nat) (w : World) (e : Ending) (w' : World) : Prop :=
  ∃ (j : Nat) (d' : Pd) (m' : List Nat), j < d.n ∧ e = .returned (.tuple #[.int .i64 j, .int .i64 0]) ∧ Mx A d d' bb rm gm ad m' C W 3 w w' ∧ d'.tk j = true ∧ d'.pg j = x ∧ (∀ k, d'.ch k = true → d.ch k = true ∧ d'.pg k = d.pg k)
/-- a page's numbers, and that it is there, are written to a frame -/
theorem Frs.brg {w : World} {A : Pa} {d : Pd} {j a b : Nat} (h : Frs w A d) (hj : j < d.n) : Frs (((w.setCell ⟨A.fb, j * 6 + 1, none⟩ (.int .i64 a)).setCell ⟨A.fb, j * 6 + 2, none⟩ (.int .i64 b)).setCell ⟨A.fb, j * 6 + 3, none⟩ (.bool true)) A (d.brg j (a, b)) := by
  have h1 : Frs (w.setCell ⟨A.fb, j * 6 + 1, none⟩ (.int .i64 a)) A { d with pg := fun k => if k = j then (a, (d.pg j).2) else d.pg k } :=
    h.set_ (k := 1) hj (by omega) rfl (by simp [frC, I64]) (fun k hk => by simp [frC, hk])
  have h2 : Frs ((w.setCell ⟨A.fb, j * 6 + 1, none⟩ (.int .i64 a)).setCell ⟨A.fb, j * 6 + 2, none⟩ (.int .i64 b)) A { d with pg := fun k => if k = j then (a, b) else d.pg k } :=
    h1.set_ (k := 2) hj (by omega) rfl (by simp [frC, I64]) (fun k hk => by simp [frC, hk])
  exact h2.set_ (k := 3) hj (by omega) rfl (by simp [frC, I64, Pd.brg, setB]) (fun k hk => by simp [frC, hk, Pd.brg, setB])
theorem PI.count {d : Pd} {mem : List Nat} {C : Nat × Nat → List Nat} {W : List (Nat × Nat)} {E : Nat × Nat → Prop} (h : PI d mem C W E) {w : World} {b q : Nat} (hp : PM w b q d.st) : q ≤ d.n := by
  have := hp.count_le ((List.range d.n).map d.pg) (fun x hx => by
    obtain ⟨i, hi⟩ := Option.ne_none_iff_exists'.1 hx
    obtain ⟨h1, _, h3⟩ := (h.st x i).1 hi
    exact List.mem_map.2 ⟨i, List.mem_range.2 h1, h3⟩)
  simpa using this
set_option maxHeartbeats 4000000 in
set_option maxRecDepth 100000 in
theorem bring_ok {w : World} {A : Pa} {d : Pd} {C : Nat × Nat → List Nat} {W : List (Nat × Nat)} {bb rm gm : Nat} {ad : Ad} (h : Lay w A d) (ha : Are w A.a bb rm gm ad) (hdis : ∀ k, ad.mine A.a bb rm gm k → ¬ foot A d k) (hp : PI d ad.mem C W (fun _ => False)) (ho : d.sd.ops < 900000) (hW : W.length ≤ d.sd.cap)
    (a b : Nat) (hx : small (a, b)) (hn : d.st (a, b) = none) :
    Calls Try.prog 77 #[.pointer (some ⟨A.p, 0, none⟩), .agg #[.int .i64 a, .int .i64 b]] w (BgPost A d bb rm gm ad C W (a, b) w) := by
  have hn1 := h.n1
  have hn2 := h.n2
  have hcap := h.cap1
  have hcap2 : A.cap ≤ 9223372036854775807 := h.cap2
  have hs1 := h.sto.lo
  have hs2 := h.sto.hi
  have hlim := ha.lim
  have hml := ha.len
  have hrin := hp.rin
  have hF0 : Fr (fun _ => False) w (w.alloc (Obj.cells #[.int .i64 a, .int .i64 b] 104)) := (Fr.refl _ w).alloc _
  have hL0 : Lay (w.alloc (Obj.cells #[.int .i64 a, .int .i64 b] 104)) A d := h.alloc _
  have hA0 : Are (w.alloc (Obj.cells #[.int .i64 a, .int .i64 b] 104)) A.a bb rm gm ad := ha.alloc _
  have hX0 : Blk (w.alloc (Obj.cells #[.int .i64 a, .int .i64 b] 104)) w.heap.size 104 #[.int .i64 a, .int .i64 b] := Blk.new w 104 _
  have hbxn : ¬ foot A d w.heap.size := fun q => by have := h.flt q; omega
  have HV := Lib.hid (vacant_ok hL0 hA0 hdis hp ho hW)
  unfold VtPost at HV
  have hbbl : bb < w.heap.size := ha.mlt (.inr (.inl rfl))
  have hbbn : ¬ foot A d bb := hdis bb (.inr (.inl rfl))
  have H := Lib.hid h
  have HD := Lib.hid hdis
  have HX := Lib.hid hx
  have HN := Lib.hid hn
  have HP := Lib.hid hp
  have HRI := Lib.hid hrin
  have HA := Lib.hid ha
  have HX0 := Lib.hid hX0
  have HF0 := Lib.hid hF0
  have HBX := Lib.hid hbxn
  have HBL := Lib.hid hbbl
  have HBN := Lib.hid hbbn
  have HA0 := Lib.hid hA0
  clear h ha hdis hp hn hL0 hA0 hX0 hF0 hbxn hx hbbl hbbn hrin
  go_enter Try.func77, Try.ntmps77
  go_wp2_with (first
    | (go_at_call 86
       refine HV.out.mono ?_
       rintro e w1 ⟨j, d1, hj, rfl, hm1, ht1, hst1⟩
       have hX1 := HX0.out.fr hm1.fr HBX.out
       have x0 : w1.cell? ⟨w.heap.size, 0, none⟩ = some (.int .i64 a) := hX1.cell 0
       have x1 : w1.cell? ⟨w.heap.size, 1, none⟩ = some (.int .i64 b) := hX1.cell 1
       have hld := load_mid hm1.lay hm1.pi a b HX.out (hst1 _ HN.out) (by have := hm1.ops; omega)
       unfold LmPost at hld
       rw [hm1.size] at hld
       have HLD := Lib.hid hld
       have HX1 := Lib.hid hX1
       have HM1 := Lib.hid hm1
       have HT1 := Lib.hid ht1
       have HST1 := Lib.hid (hst1 _ HN.out)
       clear hm1 ht1 hst1 hX1 hld)
    | (go_at_call 87
       refine HLD.out.mono ?_
       rintro e w2 ⟨g, d2, rfl, hg, hy, hm, hst, htk⟩
       have hm2 := HM1.out.trans hm
       have c2 : w2.cell? ⟨A.p, 2, none⟩ = some (.slice (some ⟨A.fb, 0, none⟩) d.n A.cap) := by rw [← hm2.n]; exact hm2.lay.blk.cell 2
       have HY := Lib.hid hy
       have HG := Lib.hid hg
       have HM2 := Lib.hid hm2
       have HX2 : Hid (Blk w2 w.heap.size 104 #[.int .i64 a, .int .i64 b]) := Lib.hid (HX0.out.fr hm2.fr HBX.out)
       have HST2 : Hid (d2.st (a, b) = none) := Lib.hid (by rw [hst]; exact HST1.out)
       have HT2 : Hid (d2.tk j = false) := Lib.hid (by rw [htk]; exact HT1.out)
       clear hg hy hm hst htk hm2 x0 x1))
  have hA2 : Are w2 A.a bb rm gm ad := HA0.out.fr HM2.out.fr (fun k hk => HD.out k hk)
  have hN2 := HM2.out.n
  have hR2 : d2.room j = d.room j := by rw [HM2.out.room]
  have c0 : w2.drew.cell? ⟨A.p, 0, none⟩ = some (.pointer (some ⟨A.a, 0, none⟩)) := HM2.out.lay.blk.cell 0
  have f0 : w2.drew.cell? ⟨A.fb, j * 6, none⟩ = some (.int .i64 (d.room j)) := by rw [← hR2]; exact (HM2.out.lay.drewN 1).fcell (by rw [hN2]; exact hj) 0 rfl
  have hbb2 : ¬ foot A d2 bb := fun q => by
    rcases HM2.out.ft bb q with q | q
    · exact HBN.out q
    · have := HBL.out
      simp at q
      omega
  have hlen := (HP.out.len (a, b)).1
  have hCp := Copy_ok A.a bb rm gm ad (d.room j) d.sd.size d.sd.size (some ⟨g, 0, none⟩) (C (a, b)) w2.drew (hA2.drewN 1) (show Byt w2.drew (some ⟨g, 0, none⟩) d.sd.size d.sd.size (C (a, b)) from HY.out) (by omega) (by have := HRI.out j hj; omega)
  have HCp := Lib.hid hCp
  have HBB2 := Lib.hid hbb2
  have HRM := Lib.hid hR2
  have HN2 := Lib.hid hN2
  clear hCp hbb2 hR2 hN2 hA2 hlen
  refine wp_region_held_drew (S := (fun W => W.cell? ⟨A.p, 0, none⟩ = some (.pointer (some ⟨A.a, 0, none⟩)) ∧ W.cell? ⟨A.fb, j * 6, none⟩ = some (.int .i64 (d.room j)))) (by kernel_rfl) ⟨c0, f0⟩ (fun hHeld => ?_)
  refine wpAnyH_take (i := 0) (oi := ?oi_1) (v := ?_) ?hi_1 (by kernel_rfl) ?hf_1 (by kernel_rfl) ?hQ_1 ?hy_1 (by assumption) ?_
  case hi_1 => simp only [List.getElem?_toArray, List.getElem?_cons_zero, List.getElem?_cons_succ]; rfl
  case hf_1 => kernel_rfl
  case hQ_1 => exact fun _ _ _ h => h
  case hy_1 =>
    refine Or.inl ⟨by rfl, ?_⟩
    intro W hSw
    obtain ⟨q0, q1⟩ := hSw
    go_simp
    try with_reducible rfl
  try simp only [Act.put, List.setIfInBounds_toArray, List.set_cons_zero, List.set_cons_succ]
  refine wpAnyH_take (i := 1) (oi := ?oi_2) (v := ?_) ?hi_2 (by kernel_rfl) ?hf_2 (by kernel_rfl) ?hQ_2 ?hy_2 (by assumption) ?_
  case hi_2 => simp only [List.getElem?_toArray, List.getElem?_cons_zero, List.getElem?_cons_succ]; rfl
  case hf_2 => kernel_rfl
  case hQ_2 => exact fun _ _ _ h => h
  case hy_2 =>
    refine Or.inl ⟨by rfl, ?_⟩
    intro W hSw
    obtain ⟨q0, q1⟩ := hSw
    go_simp
    try with_reducible rfl
  try simp only [Act.put, List.setIfInBounds_toArray, List.set_cons_zero, List.set_cons_succ]
  refine wpAnyH_take (i := 2) (oi := ?oi_3) (v := ?_) ?hi_3 (by kernel_rfl) ?hf_3 (by kernel_rfl) ?hQ_3 ?hy_3 (by assumption) ?_
  case hi_3 => simp only [List.getElem?_toArray, List.getElem?_cons_zero, List.getElem?_cons_succ]; rfl
  case hf_3 => kernel_rfl
  case hQ_3 => exact fun _ _ _ h => h
  case hy_3 =>
    refine Or.inl ⟨by rfl, ?_⟩
    intro W hSw
    obtain ⟨q0, q1⟩ := hSw
    go_simp
    try with_reducible rfl
  try simp only [Act.put, List.setIfInBounds_toArray, List.set_cons_zero, List.set_cons_succ]
  refine wpAnyH_take (i := 3) (oi := ?oi_4) (v := ?_) ?hi_4 (by kernel_rfl) ?hf_4 (by kernel_rfl) ?hQ_4 ?hy_4 (by assumption) ?_
  case hi_4 => simp only [List.getElem?_toArray, List.getElem?_cons_zero, List.getElem?_cons_succ]; rfl
  case hf_4 => kernel_rfl
  case hQ_4 => exact fun _ _ _ h => h
  case hy_4 =>
    refine Or.inl ⟨by rfl, ?_⟩
    intro W hSw
    obtain ⟨q0, q1⟩ := hSw
    go_simp
    try with_reducible rfl
  try simp only [Act.put, List.setIfInBounds_toArray, List.set_cons_zero, List.set_cons_succ]
  refine wpAnyH_take (i := 4) (oi := ?oi_5) (v := ?_) ?hi_5 (by kernel_rfl) ?hf_5 (by kernel_rfl) ?hQ_5 ?hy_5 (by assumption) ?_
  case hi_5 => simp only [List.getElem?_toArray, List.getElem?_cons_zero, List.getElem?_cons_succ]; rfl
  case hf_5 => kernel_rfl
  case hQ_5 => exact fun _ _ _ h => h
  case hy_5 =>
    refine Or.inl ⟨by rfl, ?_⟩
    intro W hSw
    obtain ⟨q0, q1⟩ := hSw
    go_simp
    try with_reducible rfl
  try simp only [Act.put, List.setIfInBounds_toArray, List.set_cons_zero, List.set_cons_succ]
  refine wpAnyH_take (i := 5) (oi := ?oi_6) (v := ?_) ?hi_6 (by kernel_rfl) ?hf_6 (by kernel_rfl) ?hQ_6 ?hy_6 (by assumption) ?_
  case hi_6 => simp only [List.getElem?_toArray, List.getElem?_cons_zero, List.getElem?_cons_succ]; rfl
  case hf_6 => kernel_rfl
  case hQ_6 => exact fun _ _ _ h => h
  case hy_6 =>
    refine Or.inl ⟨by rfl, ?_⟩
    intro W hSw
    obtain ⟨q0, q1⟩ := hSw
    go_simp
    try with_reducible rfl
  try simp only [Act.put, List.setIfInBounds_toArray, List.set_cons_zero, List.set_cons_succ]
  refine wpAnyH_take (i := 6) (oi := ?oi_7) (v := ?_) ?hi_7 (by kernel_rfl) ?hf_7 (by kernel_rfl) ?hQ_7 ?hy_7 (by assumption) ?_
  case hi_7 => simp only [List.getElem?_toArray, List.getElem?_cons_zero, List.getElem?_cons_succ]; rfl
  case hf_7 => kernel_rfl
  case hQ_7 => exact fun _ _ _ h => h
  case hy_7 =>
    refine Or.inl ⟨by rfl, ?_⟩
    intro W hSw
    obtain ⟨q0, q1⟩ := hSw
    go_simp
    try with_reducible rfl
  try simp only [Act.put, List.setIfInBounds_toArray, List.set_cons_zero, List.set_cons_succ]
  refine wpAnyH_take (i := 7) (oi := ?oi_8) (v := ?_) ?hi_8 (by kernel_rfl) ?hf_8 (by kernel_rfl) ?hQ_8 ?hy_8 (by assumption) ?_
  case hi_8 => simp only [List.getElem?_toArray, List.getElem?_cons_zero, List.getElem?_cons_succ]; rfl
  case hf_8 => kernel_rfl
  case hQ_8 => exact fun _ _ _ h => h
  case hy_8 =>
    refine Or.inl ⟨by rfl, ?_⟩
    intro W hSw
    obtain ⟨q0, q1⟩ := hSw
    go_simp
    try with_reducible rfl
  try simp only [Act.put, List.setIfInBounds_toArray, List.set_cons_zero, List.set_cons_succ]
  refine wpAnyH_take (i := 8) (oi := ?oi_9) (v := ?_) ?hi_9 (by kernel_rfl) ?hf_9 (by kernel_rfl) ?hQ_9 ?hy_9 (by assumption) ?_
  case hi_9 => simp only [List.getElem?_toArray, List.getElem?_cons_zero, List.getElem?_cons_succ]; rfl
  case hf_9 => kernel_rfl
  case hQ_9 => exact fun _ _ _ h => h
  case hy_9 =>
    refine Or.inl ⟨by rfl, ?_⟩
    intro W hSw
    obtain ⟨q0, q1⟩ := hSw
    go_simp
    try with_reducible rfl
  try simp only [Act.put, List.setIfInBounds_toArray, List.set_cons_zero, List.set_cons_succ]
  refine wpAnyH_ready (rs := [9]) (by kernel_rfl) (by simp) ?_
  refine AllReadyH.cons (o := ?oi_10) ?hi_10 (fun K hK => ?_) AllReadyH.nil
  case hi_10 => simp only [List.getElem?_toArray, List.getElem?_cons_zero, List.getElem?_cons_succ]; rfl
  go_simp
  (go_at_call 42
   refine HCp.out.mono ?_
   rintro e w3 ⟨rfl, h3, f3⟩
   have HA3 := Lib.hid h3
   have HF3 := Lib.hid f3
   have HL3 := Lib.hid (HM2.out.lay.fr f3.undrew (fun k hk e => HBB2.out (e ▸ hk)))
   have hK2 : w3.cell? ⟨A.p, 0, none⟩ = some (.pointer (some ⟨A.a, 0, none⟩)) ∧ w3.cell? ⟨A.fb, j * 6, none⟩ = some (.int .i64 (d.room j)) := ⟨HL3.out.blk.cell 0, by rw [← HRM.out]; exact HL3.out.fcell (by rw [HN2.out]; exact hj) 0 rfl⟩
   clear h3 f3)
  refine hK.out _ _ hK2 (fun hHeld => ?_)
  clear hK K
  try simp only [Act.put, List.setIfInBounds_toArray, List.set_cons_zero, List.set_cons_succ]
  refine wpAnyH_done (by kernel_rfl) ?_ _
  clear hHeld hK2 c0 f0
  have hn3 : j < d2.n := by rw [HN2.out]; exact hj
  have hX3 : Blk w3 w.heap.size 104 #[.int .i64 a, .int .i64 b] := HX2.out.fr HF3.out.undrew (fun e => by have := HBL.out; omega)
  have x0 : w3.cell? ⟨w.heap.size, 0, none⟩ = some (.int .i64 a) := hX3.cell 0
  have x1 : w3.cell? ⟨w.heap.size, 1, none⟩ = some (.int .i64 b) := hX3.cell 1
  have g1 : w3.cell? ⟨A.fb, j * 6 + 1, none⟩ = some (.int .i64 (d2.pg j).1) := HL3.out.fcell hn3 1 rfl
  have g2 : w3.cell? ⟨A.fb, j * 6 + 2, none⟩ = some (.int .i64 (d2.pg j).2) := HL3.out.fcell hn3 2 rfl
  have g3 : w3.cell? ⟨A.fb, j * 6 + 3, none⟩ = some (.bool (d2.tk j)) := HL3.out.fcell hn3 3 rfl
  have zz : ∀ i, w3.frozen? ⟨A.fb, i, none⟩ = false := fun i => HL3.out.ffrozen i
  have HX3 := Lib.hid hX3
  clear hX3
  go_wp2
  have hFY : Fr (· = A.fb) w3 (((w3.setCell ⟨A.fb, j * 6 + 1, none⟩ (.int .i64 a)).setCell ⟨A.fb, j * 6 + 2, none⟩ (.int .i64 b)).setCell ⟨A.fb, j * 6 + 3, none⟩ (.bool true)) := (((Fr.refl (· = A.fb) w3).set_ (p := ⟨A.fb, j * 6 + 1, none⟩) rfl _).set_ (p := ⟨A.fb, j * 6 + 2, none⟩) rfl _).set_ (p := ⟨A.fb, j * 6 + 3, none⟩) rfl _
  have hfrY : Frs (((w3.setCell ⟨A.fb, j * 6 + 1, none⟩ (.int .i64 a)).setCell ⟨A.fb, j * 6 + 2, none⟩ (.int .i64 b)).setCell ⟨A.fb, j * 6 + 3, none⟩ (.bool true)) A (d2.brg j (a, b)) := HL3.out.frs.brg hn3
  obtain ⟨Y, eY⟩ : ∃ Y, Y = (((w3.setCell ⟨A.fb, j * 6 + 1, none⟩ (.int .i64 a)).setCell ⟨A.fb, j * 6 + 2, none⟩ (.int .i64 b)).setCell ⟨A.fb, j * 6 + 3, none⟩ (.bool true)) := ⟨_, rfl⟩
  rw [← eY] at hFY hfrY ⊢
  clear eY g1 g2 g3 zz x0 x1
  obtain ⟨q, hq, hst3⟩ := HL3.out.sts
  have hstY : PM Y A.sm q d2.st := hst3.fr hFY HL3.out.fsm
  obtain ⟨w5, hrun, hpm, hturn⟩ := (hstY.drewN 1).store Try.underlying99 (by unfold maxLen; omega) HX.out j
  have hrun' : (Instr.mapUpdate 99 (.map (some A.sm)) (.agg #[.int .i64 a, .int .i64 b]) (.int .i64 j)).run Try.prog Y.drew = .ok () w5 := hrun
  have hF5 : Fr (· = A.sm) Y w5 := (Fr.refl _ Y).drew.trans (turned_fr hturn)
  have hpi5 := HM2.out.pi.brg hn3 HT2.out HST2.out HX.out
  have hF35 : Fr (fun k => k = A.fb ∨ k = A.sm) w3 w5 := (hFY.more (fun k hk => .inl hk)).trans (hF5.more (fun k hk => .inr hk))
  have hpY : ¬ (A.p = A.fb ∨ A.p = A.sm) := by rintro (e | e); exact HL3.out.pfb e.symm; exact HL3.out.psm e.symm
  have hlay5 : Lay w5 A (d2.brg j (a, b)) := by
    refine ⟨HL3.out.blk.fr hF35 hpY, hfrY.same (hF5.block _ hfrY.lt (Ne.symm HL3.out.fsm)), ⟨_, ?_, hpm⟩, HL3.out.bls.fr hF35 ?_, HL3.out.sto.fr hF35 ?_, HL3.out.ne1, HL3.out.ne2, HL3.out.ne3, HL3.out.n1, HL3.out.n2, HL3.out.cap1, HL3.out.cap2, HL3.out.hd, HL3.out.nof⟩
    · have := hpi5.count hpm
      have hn5 : (d2.brg j (a, b)).n = d2.n := rfl
      have := HL3.out.n2
      omega
    · rintro (e | e)
      · exact HL3.out.fbm e
      · exact HL3.out.ne1 e.symm
    · intro k hk e
      rcases e with e | e
      · exact HL3.out.mine_fb (e ▸ hk)
      · exact HL3.out.mine_sm (e ▸ hk)
  have c3 : Y.drew.cell? ⟨A.p, 3, none⟩ = some (.map (some A.sm)) := (HL3.out.blk.fr hFY (fun e => HL3.out.pfb e.symm)).cell 3
  have hXY : Blk Y w.heap.size 104 #[.int .i64 a, .int .i64 b] := HX3.out.fr hFY (fun e => by have := H.out.frs.lt; omega)
  have hX5 : Blk w5 w.heap.size 104 #[.int .i64 a, .int .i64 b] := hXY.fr hF5 (fun e => by obtain ⟨q', _, hq'⟩ := H.out.sts; have := hq'.lt; omega)
  have x0 : Y.drew.cell? ⟨w.heap.size, 0, none⟩ = some (.int .i64 a) := hXY.cell 0
  have x1 : Y.drew.cell? ⟨w.heap.size, 1, none⟩ = some (.int .i64 b) := hXY.cell 1
  have hK3 : w5.cell? ⟨A.p, 3, none⟩ = some (.map (some A.sm)) ∧ w5.cell? ⟨w.heap.size, 0, none⟩ = some (.int .i64 a) ∧ w5.cell? ⟨w.heap.size, 1, none⟩ = some (.int .i64 b) := ⟨hlay5.blk.cell 3, hX5.cell 0, hX5.cell 1⟩
  have hA5 : Are w5 A.a bb rm gm { ad with mem := putM ad.mem (d.room j) (C (a, b)) } := HA3.out.fr hF35 (fun k hk e => HD.out k hk (by rcases e with e | e; exact .inr (.inl e); exact .inr (.inr (.inl e))))
  have HL5 := Lib.hid hlay5
  have HP5 := Lib.hid hpi5
  have HF35 := Lib.hid hF35
  have HA5 := Lib.hid hA5
  clear hFY hfrY hq hst3 hstY hrun hpm hturn hF5 hpi5 hF35 hpY hlay5 hXY hX5 hA5
  refine wp_region_held_drew (S := (fun W => W.cell? ⟨A.p, 3, none⟩ = some (.map (some A.sm)) ∧ W.cell? ⟨w.heap.size, 0, none⟩ = some (.int .i64 a) ∧ W.cell? ⟨w.heap.size, 1, none⟩ = some (.int .i64 b))) (by kernel_rfl) ⟨c3, x0, x1⟩ (fun hHeld => ?_)
  refine wpAnyH_take (i := 0) (oi := ?oi_11) (v := ?_) ?hi_11 (by kernel_rfl) ?hf_11 (by kernel_rfl) ?hQ_11 ?hy_11 (by assumption) ?_
  case hi_11 => simp only [List.getElem?_toArray, List.getElem?_cons_zero, List.getElem?_cons_succ]; rfl
  case hf_11 => kernel_rfl
  case hQ_11 => exact fun _ _ _ h => h
  case hy_11 =>
    refine Or.inl ⟨by rfl, ?_⟩
    intro W hSw
    obtain ⟨q0, q1, q2⟩ := hSw
    go_simp
    try with_reducible rfl
  try simp only [Act.put, List.setIfInBounds_toArray, List.set_cons_zero, List.set_cons_succ]
  refine wpAnyH_take (i := 1) (oi := ?oi_12) (v := ?_) ?hi_12 (by kernel_rfl) ?hf_12 (by kernel_rfl) ?hQ_12 ?hy_12 (by assumption) ?_
  case hi_12 => simp only [List.getElem?_toArray, List.getElem?_cons_zero, List.getElem?_cons_succ]; rfl
  case hf_12 => kernel_rfl
  case hQ_12 => exact fun _ _ _ h => h
  case hy_12 =>
    refine Or.inl ⟨by rfl, ?_⟩
    intro W hSw
    obtain ⟨q0, q1, q2⟩ := hSw
    go_simp
    try with_reducible rfl
  try simp only [Act.put, List.setIfInBounds_toArray, List.set_cons_zero, List.set_cons_succ]
  refine wpAnyH_take (i := 2) (oi := ?oi_13) (v := ?_) ?hi_13 (by kernel_rfl) ?hf_13 (by kernel_rfl) ?hQ_13 ?hy_13 (by assumption) ?_
  case hi_13 => simp only [List.getElem?_toArray, List.getElem?_cons_zero, List.getElem?_cons_succ]; rfl
  case hf_13 => kernel_rfl
  case hQ_13 => exact fun _ _ _ h => h
  case hy_13 =>
    refine Or.inl ⟨by rfl, ?_⟩
    intro W hSw
    obtain ⟨q0, q1, q2⟩ := hSw
    go_simp
    try with_reducible rfl
  try simp only [Act.put, List.setIfInBounds_toArray, List.set_cons_zero, List.set_cons_succ]
  refine wpAnyH_take (i := 3) (oi := ?oi_14) (v := ?_) ?hi_14 (by kernel_rfl) ?hf_14 (by kernel_rfl) ?hQ_14 ?hy_14 (by assumption) ?_
  case hi_14 => simp only [List.getElem?_toArray, List.getElem?_cons_zero, List.getElem?_cons_succ]; rfl
  case hf_14 => kernel_rfl
  case hQ_14 => exact fun _ _ _ h => h
  case hy_14 =>
    refine Or.inl ⟨by rfl, ?_⟩
    intro W hSw
    obtain ⟨q0, q1, q2⟩ := hSw
    go_simp
    try with_reducible rfl
  try simp only [Act.put, List.setIfInBounds_toArray, List.set_cons_zero, List.set_cons_succ]
  refine wpAnyH_take (i := 4) (oi := ?oi_15) (v := ?_) ?hi_15 (by kernel_rfl) ?hf_15 (by kernel_rfl) ?hQ_15 ?hy_15 (by assumption) ?_
  case hi_15 => simp only [List.getElem?_toArray, List.getElem?_cons_zero, List.getElem?_cons_succ]; rfl
  case hf_15 => kernel_rfl
  case hQ_15 => exact fun _ _ _ h => h
  case hy_15 =>
    refine Or.inl ⟨by rfl, ?_⟩
    intro W hSw
    obtain ⟨q0, q1, q2⟩ := hSw
    go_simp
    try with_reducible rfl
  try simp only [Act.put, List.setIfInBounds_toArray, List.set_cons_zero, List.set_cons_succ]
  refine wpAnyH_take (i := 5) (oi := ?oi_16) (v := ?_) ?hi_16 (by kernel_rfl) ?hf_16 (by kernel_rfl) ?hQ_16 ?hy_16 (by assumption) ?_
  case hi_16 => simp only [List.getElem?_toArray, List.getElem?_cons_zero, List.getElem?_cons_succ]; rfl
  case hf_16 => kernel_rfl
  case hQ_16 => exact fun _ _ _ h => h
  case hy_16 =>
    refine Or.inl ⟨by rfl, ?_⟩
    intro W hSw
    obtain ⟨q0, q1, q2⟩ := hSw
    go_simp
    try with_reducible rfl
  try simp only [Act.put, List.setIfInBounds_toArray, List.set_cons_zero, List.set_cons_succ]
  refine wpAnyH_ready (rs := [6]) (by kernel_rfl) (by simp) ?_
  refine AllReadyH.cons (o := ?oi_17) ?hi_17 (fun K hK => ?_) AllReadyH.nil
  case hi_17 => simp only [List.getElem?_toArray, List.getElem?_cons_zero, List.getElem?_cons_succ]; rfl
  go_simp
  refine hK.out _ _ hK3 (fun hHeld => ?_)
  clear hK K
  try simp only [Act.put, List.setIfInBounds_toArray, List.set_cons_zero, List.set_cons_succ]
  refine wpAnyH_done (by kernel_rfl) ?_ _
  clear hHeld hK3 c3 x0 x1 hrun'
  go_wp2
  go_ret2
  have hm2 := HM2.out
  have hlen := (HP.out.len (a, b)).1
  have hr := HRI.out j hj
  have hpi := HP5.out
  rw [hm2.room] at hpi
  refine ⟨j, d2.brg j (a, b), _, hj, rfl, ⟨HL5.out, hpi, HA5.out, hm2.n, hm2.room, hm2.size, hm2.cap, hm2.ops, ?_, ?_, putM_len (by omega), fun q hq => ?_⟩, by simp [Pd.brg, setB], by simp [Pd.brg], fun k hk => ?_⟩
  · refine (((HF0.out.more (fun _ q => q.elim)).trans (hm2.fr.more (fun k hk => .inl hk))).trans (HF3.out.undrew.more (fun k hk => .inr hk))).trans (HF35.out.more (fun k hk => .inl ?_))
    rcases hk with e | e
    · exact .inr (.inl e)
    · exact .inr (.inr (.inl e))
  · intro k hk
    rcases hm2.ft k hk with q | q
    · exact .inl q
    · simp at q
      exact .inr (by omega)
  · rw [putM_get (by omega)]
    rcases hq j hj with q | q
    · rw [if_pos q]
    · rw [if_neg (by omega), if_neg (by omega)]
  · have hk2 : d2.ch k = true := hk
    obtain ⟨q1, q2⟩ := hm2.chg k hk2
    have hkj : k ≠ j := fun e => by
      rw [e, hm2.pi.un j (by rw [hm2.n]; exact hj) HT2.out] at hk2
      cases hk2
    exact ⟨q1, by rw [← q2]; simp [Pd.brg, hkj]⟩
end Go.Proofs.Ytlnffcledpccjaa
/-
  pager.Pager.want, reach of a page and bytes that are allowed.
-/
namespace Go.Proofs.Ytlnffcledpccjaa
open Go.RowKit
set_option linter.unusedVariables false
set_option linter.unusedSimpArgs false
def WtPost (A : Pa) (d : Pd) (bb rm gm : Nat) (ad : Ad) (C : Nat × Nat → List Nat) (W : List (Nat × Nat)) (x : Nat × Nat) (w : World) (e : Ending) (w' : World) : Prop :=
  ∃ (j : Nat) (d' : Pd) (m' : List Nat), j < d.n ∧ e = .returned (.tuple #[.pointer (some ⟨A.fb, j * 6, none⟩), .int .i64 0]) ∧ Mx A d d' bb rm gm ad m' C W 3 w w' ∧ d'.tk j = true ∧ d'.pg j = x ∧ (∀ k, d'.ch k = true → d.ch k = true ∧ d'.pg k = d.pg k)
theorem Mx.touch {A : Pa} {d d' : Pd} {bb rm gm : Nat} {ad : Ad} {m' : List Nat} {C : Nat × Nat → List Nat} {W : List (Nat × Nat)} {N : Nat} {w w' : World} (hdis : ∀ k, ad.mine A.a bb rm gm k → ¬ foot A d k) (h : Mx A d d' bb rm gm ad m' C W N w w') {j : Nat} (hj : j < d.n) :
    Mx A d { d' with th := setB d'.th j true } bb rm gm ad m' C W N w (w'.setCell ⟨A.fb, j * 6 + 4, none⟩ (.bool true)) := by
  have hF : Fr (· = A.fb) w' (w'.setCell ⟨A.fb, j * 6 + 4, none⟩ (.bool true)) := (Fr.refl (· = A.fb) w').set_ (p := ⟨A.fb, j * 6 + 4, none⟩) rfl _
  refine ⟨h.lay.setth (by rw [h.n]; exact hj) true, h.pi.thhand _ _, h.are.fr hF (fun k hk e => hdis k hk (.inr (.inl e))), h.n, h.room, h.size, h.cap, h.ops, h.fr.trans (hF.more (fun k hk => .inl (.inr (.inl hk)))), h.ft, h.len, h.out⟩
theorem Mx.still {A : Pa} {d : Pd} {bb rm gm : Nat} {ad : Ad} {C : Nat × Nat → List Nat} {W : List (Nat × Nat)} {N : Nat} {w w' : World} (h : Lay w A d) (ha : Are w A.a bb rm gm ad) (hp : PI d ad.mem C W (fun _ => False)) (hf : Fr (fun _ => False) w w') :
    Mx A d d bb rm gm ad ad.mem C W N w w' :=
  ⟨h.fr hf (fun _ _ q => q), hp, ha.fr hf (fun _ _ q => q), rfl, rfl, rfl, rfl, Nat.le_add_right _ _, hf.more (fun _ q => q.elim), fun _ hk => .inl hk, rfl, fun _ _ => rfl⟩
set_option maxHeartbeats 2000000 in
set_option maxRecDepth 100000 in
theorem want_some {w : World} {A : Pa} {d : Pd} {C : Nat × Nat → List Nat} {W : List (Nat × Nat)} {bb rm gm : Nat} {ad : Ad} (h : Lay w A d) (ha : Are w A.a bb rm gm ad) (hdis : ∀ k, ad.mine A.a bb rm gm k → ¬ foot A d k) (hp : PI d ad.mem C W (fun _ => False))
    (a b i : Nat) (hx : small (a, b)) (hs : d.st (a, b) = some i) :
    Calls Try.prog 62 #[.pointer (some ⟨A.p, 0, none⟩), .agg #[.int .i64 a, .int .i64 b]] w (WtPost A d bb rm gm ad C W (a, b) w) := by
  have c3 : w.cell? ⟨A.p, 3, none⟩ = some (.map (some A.sm)) := h.blk.cell 3
  have c2 : w.cell? ⟨A.p, 2, none⟩ = some (.slice (some ⟨A.fb, 0, none⟩) d.n A.cap) := h.blk.cell 2
  have hl : ∀ k, (Instr.lookup 99 (.map (some A.sm)) (.agg #[.int .i64 a, .int .i64 b]) true).run Try.prog ((w.alloc (Obj.cells #[.int .i64 a, .int .i64 b] 104)).drewN k) = .ok (.tuple #[.int .i64 i, .bool true]) ((w.alloc (Obj.cells #[.int .i64 a, .int .i64 b] 104)).drewN k) := fun k => by
    obtain ⟨q, _, hst⟩ := h.sts
    have := ((hst.alloc (Obj.cells #[.int .i64 a, .int .i64 b] 104)).drewN k).look Try.underlying99 hx true
    rw [hs] at this
    exact this
  have hn1 := h.n1
  have hn2 := h.n2
  have hcap := h.cap1
  have hcap2 : A.cap ≤ 9223372036854775807 := h.cap2
  have hlt := h.blk.lt
  have hst := (hp.st (a, b) i).1 hs
  have hi := hst.1
  have H := Lib.hid h
  have HP := Lib.hid hp
  have HA := Lib.hid ha
  have HD := Lib.hid hdis
  have HST := Lib.hid hst
  clear h hp ha hdis hs hst hx
  go_enter Try.func62, Try.ntmps62
  go_wp2
  go_quiet (fail)
  clear hl c3
  have hF0 : Fr (fun _ => False) w ((w.alloc (Obj.cells #[.int .i64 a, .int .i64 b] 104)).drewN nq) := ((Fr.refl _ w).alloc _).drewN _
  have hL0 : Lay ((w.alloc (Obj.cells #[.int .i64 a, .int .i64 b] 104)).drewN nq) A d := (H.out.alloc _).drewN nq
  generalize (w.alloc (Obj.cells #[.int .i64 a, .int .i64 b] 104)).drewN nq = Y at hF0 hL0 ⊢
  have c2 : Y.cell? ⟨A.p, 2, none⟩ = some (.slice (some ⟨A.fb, 0, none⟩) d.n A.cap) := hL0.blk.cell 2
  have zz : ∀ i, Y.frozen? ⟨A.fb, i, none⟩ = false := fun i => hL0.ffrozen i
  have g4 : Y.cell? ⟨A.fb, i * 6 + 4, none⟩ = some (.bool (d.th i)) := hL0.fcell hi 4 rfl
  have HF0 := Lib.hid hF0
  have HL0 := Lib.hid hL0
  clear hF0 hL0 hlt
  go_wp2
  go_ret2
  exact ⟨i, { d with th := setB d.th i true }, ad.mem, hi, rfl, (Mx.still H.out HA.out HP.out HF0.out).touch HD.out hi, HST.out.2.1, HST.out.2.2, fun _ q => ⟨q, rfl⟩⟩
theorem Mx.from {A : Pa} {d d' : Pd} {bb rm gm : Nat} {ad : Ad} {m' : List Nat} {C : Nat × Nat → List Nat} {W : List (Nat × Nat)} {N : Nat} {w w0 w' : World} (hf : Fr (fun _ => False) w w0) (h : Mx A d d' bb rm gm ad m' C W N w0 w') : Mx A d d' bb rm gm ad m' C W N w w' :=
  ⟨h.lay, h.pi, h.are, h.n, h.room, h.size, h.cap, h.ops, (hf.more (fun _ q => q.elim)).trans h.fr, fun k hk => by
    rcases h.ft k hk with q | q
    · exact .inl q
    · exact .inr (Nat.le_trans hf.size q), h.len, h.out⟩
set_option maxHeartbeats 2000000 in
set_option maxRecDepth 100000 in
theorem want_none {w : World} {A : Pa} {d : Pd} {C : Nat × Nat → List Nat} {W : List (Nat × Nat)} {bb rm gm : Nat} {ad : Ad} (h : Lay w A d) (ha : Are w A.a bb rm gm ad) (hdis : ∀ k, ad.mine A.a bb rm gm k → ¬ foot A d k) (hp : PI d ad.mem C W (fun _ => False)) (ho : d.sd.ops < 900000) (hW : W.length ≤ d.sd.cap)
    (a b : Nat) (hx : small (a, b)) (hs : d.st (a, b) = none) :
    Calls Try.prog 62 #[.pointer (some ⟨A.p, 0, none⟩), .agg #[.int .i64 a, .int .i64 b]] w (WtPost A d bb rm gm ad C W (a, b) w) := by
  have c3 : w.cell? ⟨A.p, 3, none⟩ = some (.map (some A.sm)) := h.blk.cell 3
  have hl : ∀ k, (Instr.lookup 99 (.map (some A.sm)) (.agg #[.int .i64 a, .int .i64 b]) true).run Try.prog ((w.alloc (Obj.cells #[.int .i64 a, .int .i64 b] 104)).drewN k) = .ok (.tuple #[.int .i64 0, .bool false]) ((w.alloc (Obj.cells #[.int .i64 a, .int .i64 b] 104)).drewN k) := fun k => by
    obtain ⟨q, _, hst⟩ := h.sts
    have := ((hst.alloc (Obj.cells #[.int .i64 a, .int .i64 b] 104)).drewN k).look Try.underlying99 hx true
    rw [hs] at this
    exact this
  have hn1 := h.n1
  have hn2 := h.n2
  have hcap := h.cap1
  have hcap2 : A.cap ≤ 9223372036854775807 := h.cap2
  have hlt := h.blk.lt
  have H := Lib.hid h
  have HP := Lib.hid hp
  have HA := Lib.hid ha
  have HD := Lib.hid hdis
  have HN := Lib.hid hs
  have HX := Lib.hid hx
  clear h hp ha hdis hs hx
  go_enter Try.func62, Try.ntmps62
  go_wp2
  go_quiet (fail)
  clear hl c3
  have hF0 : Fr (fun _ => False) w ((w.alloc (Obj.cells #[.int .i64 a, .int .i64 b] 104)).drewN nq) := ((Fr.refl _ w).alloc _).drewN _
  have hX0 : Blk ((w.alloc (Obj.cells #[.int .i64 a, .int .i64 b] 104)).drewN nq) w.heap.size 104 #[.int .i64 a, .int .i64 b] := (Blk.new w 104 _).drewN nq
  generalize (w.alloc (Obj.cells #[.int .i64 a, .int .i64 b] 104)).drewN nq = Y at hF0 hX0 ⊢
  have x0 : Y.cell? ⟨w.heap.size, 0, none⟩ = some (.int .i64 a) := hX0.cell 0
  have x1 : Y.cell? ⟨w.heap.size, 1, none⟩ = some (.int .i64 b) := hX0.cell 1
  have HF0 := Lib.hid hF0
  have HX0 := Lib.hid hX0
  have HB := Lib.hid (bring_ok (H.out.fr hF0 (fun _ _ q => q)) (HA.out.fr hF0 (fun _ _ q => q)) HD.out HP.out ho hW a b HX.out HN.out)
  unfold BgPost at HB
  clear hF0 hX0 hlt
  go_wp2_with (go_at_call 77
               refine HB.out.mono ?_
               rintro e w1 ⟨j, d1, m1, hj, rfl, hm, ht, hpg, hch⟩
               have c2 : w1.cell? ⟨A.p, 2, none⟩ = some (.slice (some ⟨A.fb, 0, none⟩) d.n A.cap) := by rw [← hm.n]; exact hm.lay.blk.cell 2
               have zz : ∀ i, w1.frozen? ⟨A.fb, i, none⟩ = false := fun i => hm.lay.ffrozen i
               have g4 : w1.cell? ⟨A.fb, j * 6 + 4, none⟩ = some (.bool (d1.th j)) := hm.lay.fcell (by rw [hm.n]; exact hj) 4 rfl
               have HM := Lib.hid hm
               have HT := Lib.hid ht
               have HPG := Lib.hid hpg; have HCHG := Lib.hid hch
               clear hm ht hpg hch)
  go_ret2
  exact ⟨j, { d1 with th := setB d1.th j true }, m1, hj, rfl, (HM.out.from HF0.out).touch HD.out hj, HT.out, HPG.out, HCHG.out⟩
theorem want_ok {w : World} {A : Pa} {d : Pd} {C : Nat × Nat → List Nat} {W : List (Nat × Nat)} {bb rm gm : Nat} {ad : Ad} (h : Lay w A d) (ha : Are w A.a bb rm gm ad) (hdis : ∀ k, ad.mine A.a bb rm gm k → ¬ foot A d k) (hp : PI d ad.mem C W (fun _ => False)) (ho : d.sd.ops < 900000) (hW : W.length ≤ d.sd.cap)
    (a b : Nat) (hx : small (a, b)) :
    Calls Try.prog 62 #[.pointer (some ⟨A.p, 0, none⟩), .agg #[.int .i64 a, .int .i64 b]] w (WtPost A d bb rm gm ad C W (a, b) w) := by
  cases hs : d.st (a, b) with
  | some i => exact want_some h ha hdis hp a b i hx hs
  | none => exact want_none h ha hdis hp ho hW a b hx hs
set_option maxHeartbeats 2000000 in
set_option maxRecDepth 100000 in
theorem reach_ok {w : World} {A : Pa} {d : Pd} {C : Nat × Nat → List Nat} {W : List (Nat × Nat)} {bb rm gm : Nat} {ad : Ad} (h : Lay w A d) (ha : Are w A.a bb rm gm ad) (hdis : ∀ k, ad.mine A.a bb rm gm k → ¬ foot A d k) (hp : PI d ad.mem C W (fun _ => False)) (ho : d.sd.ops < 900000) (hW : W.length ≤ d.sd.cap)
    (a b o n : Nat) (hx : small (a, b)) (hon : o + n ≤ d.sd.size) :
    Calls Try.prog 40 #[.pointer (some ⟨A.p, 0, none⟩), .int .i64 a, .int .i64 b, .int .i64 o, .int .i64 n] w (WtPost A d bb rm gm ad C W (a, b) w) := by
  have HW_ := Lib.hid (works_ok h)
  have HS := Lib.hid (PSize_ok h)
  have hs2 := h.sto.hi
  have HB := Lib.hid (want_ok h ha hdis hp ho hW a b hx)
  unfold WtPost at HB
  have hx1 := hx.1
  have hx2 := hx.2
  simp only at hx1 hx2
  clear h ha hdis hp hx
  go_enter Try.func40, Try.ntmps40
  go_wp2_with (first
    | (go_at_call 43; refine HW_.out.mono ?_; rintro e w1 ⟨rfl, rfl⟩)
    | (go_at_call 54; refine HS.out.mono ?_; rintro e w1 ⟨rfl, rfl⟩)
    | (go_at_call 62; refine HB.out.mono ?_; rintro e w1 ⟨j, d1, m1, hj, rfl, hm, ht, hpg, hch⟩; have HM := Lib.hid hm; have HT := Lib.hid ht; have HPG := Lib.hid hpg; have HCHG := Lib.hid hch; clear hm ht hpg hch))
  go_ret2
  exact ⟨j, d1, m1, hj, rfl, HM.out, HT.out, HPG.out, HCHG.out⟩
end Go.Proofs.Ytlnffcledpccjaa
/-
  pager.Pager.Read, Write of some bytes.
-/
namespace Go.Proofs.Ytlnffcledpccjaa
open Go.RowKit
set_option linter.unusedVariables false
set_option linter.unusedSimpArgs false
theorem sub_read {mem l : List Nat} {r sz o n : Nat} (h : (mem.drop r).take sz = l) (ho : o + n ≤ sz) : (mem.drop (r + o)).take n = (l.drop o).take n := by
  subst h
  rw [List.drop_take, List.drop_drop, List.take_take, Nat.min_eq_left (by omega)]
def RrPost (A : Pa) (d : Pd) (bb rm gm : Nat) (ad : Ad) (C : Nat × Nat → List Nat) (W : List (Nat × Nat)) (x : Nat × Nat) (o n : Nat) (w : World) (e : Ending) (w' : World) : Prop :=
  ∃ (g j : Nat) (d' : Pd) (m' : List Nat), e = .returned (.tuple #[.slice (some ⟨g, 0, none⟩) n n, .int .i64 0]) ∧ Byt w' (some ⟨g, 0, none⟩) n n (((C x).drop o).take n) ∧ Mx A d d' bb rm gm ad m' C W 3 w w' ∧ j < d.n ∧ d'.tk j = true ∧ d'.pg j = x ∧ (∀ k, d'.ch k = true → d.ch k = true ∧ d'.pg k = d.pg k) ∧ (w.heap.size ≤ g ∧ ¬ foot A d' g)
theorem Mx.on {A : Pa} {d d' : Pd} {bb rm gm : Nat} {ad : Ad} {m' : List Nat} {C : Nat × Nat → List Nat} {W : List (Nat × Nat)} {N : Nat} {w w0 w' : World} (h : Mx A d d' bb rm gm ad m' C W N w w0) (hf : Fr (fun _ => False) w0 w') : Mx A d d' bb rm gm ad m' C W N w w' :=
  ⟨h.lay.fr hf (fun _ _ q => q), h.pi, h.are.fr hf (fun _ _ q => q), h.n, h.room, h.size, h.cap, h.ops, h.fr.trans (hf.more (fun _ q => q.elim)), h.ft, h.len, h.out⟩
set_option maxHeartbeats 2000000 in
set_option maxRecDepth 100000 in
theorem PRead_ok {w : World} {A : Pa} {d : Pd} {C : Nat × Nat → List Nat} {W : List (Nat × Nat)} {bb rm gm : Nat} {ad : Ad} (h : Lay w A d) (ha : Are w A.a bb rm gm ad) (hdis : ∀ k, ad.mine A.a bb rm gm k → ¬ foot A d k) (hp : PI d ad.mem C W (fun _ => False)) (ho : d.sd.ops < 900000) (hW : W.length ≤ d.sd.cap)
    (a b o n : Nat) (hx : small (a, b)) (hn0 : 0 < n) (hon : o + n ≤ d.sd.size) :
    Calls Try.prog 15 #[.pointer (some ⟨A.p, 0, none⟩), .int .i64 a, .int .i64 b, .int .i64 o, .int .i64 n] w (RrPost A d bb rm gm ad C W (a, b) o n w) := by
  have HB := Lib.hid (reach_ok h ha hdis hp ho hW a b o n hx hon)
  unfold WtPost at HB
  have hrin := hp.rin
  have hlim := ha.lim
  have hml := ha.len
  have HRI := Lib.hid hrin
  clear h ha hdis hp hx hrin
  go_enter Try.func15, Try.ntmps15
  go_wp2_with (go_at_call 40
               refine HB.out.mono ?_
               rintro e w1 ⟨j, d1, m1, hj, rfl, hm, ht, hpg, hch⟩
               have HM := Lib.hid hm
               have HT := Lib.hid ht
               have HPG := Lib.hid hpg; have HCHG := Lib.hid hch
               clear hm ht hpg hch)
  have hr := HRI.out j hj
  have hR : d1.room j = d.room j := by rw [HM.out.room]
  have c0 : w1.drew.cell? ⟨A.p, 0, none⟩ = some (.pointer (some ⟨A.a, 0, none⟩)) := HM.out.lay.blk.cell 0
  have f0 : w1.drew.cell? ⟨A.fb, j * 6, none⟩ = some (.int .i64 (d.room j)) := by rw [← hR]; exact (HM.out.lay.drewN 1).fcell (by rw [HM.out.n]; exact hj) 0 rfl
  have hBy := Bytes_new A.a bb rm gm { ad with mem := m1 } (d.room j + o) n w1.drew (HM.out.are.drewN 1) hn0 (by show d.room j + o + n ≤ ad.sz; omega)
  unfold BnPost at hBy
  have hwr : (d.room j : Int) + (o : Int) = IntKind.i64.wrap ((d.room j : Int) + (o : Int)) := by rw [IntKind.wrap_i64]; omega
  rw [Int.natCast_add, hwr] at hBy
  clear hwr
  have HBy := Lib.hid hBy
  have HRM := Lib.hid hR
  clear hBy hR
  refine wp_region_held_drew (S := (fun W => W.cell? ⟨A.p, 0, none⟩ = some (.pointer (some ⟨A.a, 0, none⟩)) ∧ W.cell? ⟨A.fb, j * 6, none⟩ = some (.int .i64 (d.room j)))) (by kernel_rfl) ⟨c0, f0⟩ (fun hHeld => ?_)
  refine wpAnyH_take (i := 0) (oi := ?oi_1) (v := ?_) ?hi_1 (by kernel_rfl) ?hf_1 (by kernel_rfl) ?hQ_1 ?hy_1 (by assumption) ?_
  case hi_1 => simp only [List.getElem?_toArray, List.getElem?_cons_zero, List.getElem?_cons_succ]; rfl
  case hf_1 => kernel_rfl
  case hQ_1 => exact fun _ _ _ h => h
  case hy_1 =>
    refine Or.inl ⟨by rfl, ?_⟩
    intro W hSw
    obtain ⟨q0, q1⟩ := hSw
    go_simp
    try with_reducible rfl
  try simp only [Act.put, List.setIfInBounds_toArray, List.set_cons_zero, List.set_cons_succ]
  refine wpAnyH_take (i := 1) (oi := ?oi_2) (v := ?_) ?hi_2 (by kernel_rfl) ?hf_2 (by kernel_rfl) ?hQ_2 ?hy_2 (by assumption) ?_
  case hi_2 => simp only [List.getElem?_toArray, List.getElem?_cons_zero, List.getElem?_cons_succ]; rfl
  case hf_2 => kernel_rfl
  case hQ_2 => exact fun _ _ _ h => h
  case hy_2 =>
    refine Or.inl ⟨by rfl, ?_⟩
    intro W hSw
    obtain ⟨q0, q1⟩ := hSw
    go_simp
    try with_reducible rfl
  try simp only [Act.put, List.setIfInBounds_toArray, List.set_cons_zero, List.set_cons_succ]
  refine wpAnyH_take (i := 2) (oi := ?oi_3) (v := ?_) ?hi_3 (by kernel_rfl) ?hf_3 (by kernel_rfl) ?hQ_3 ?hy_3 (by assumption) ?_
  case hi_3 => simp only [List.getElem?_toArray, List.getElem?_cons_zero, List.getElem?_cons_succ]; rfl
  case hf_3 => kernel_rfl
  case hQ_3 => exact fun _ _ _ h => h
  case hy_3 =>
    refine Or.inl ⟨by rfl, ?_⟩
    intro W hSw
    obtain ⟨q0, q1⟩ := hSw
    go_simp
    try with_reducible rfl
  try simp only [Act.put, List.setIfInBounds_toArray, List.set_cons_zero, List.set_cons_succ]
  refine wpAnyH_take (i := 3) (oi := ?oi_4) (v := ?_) ?hi_4 (by kernel_rfl) ?hf_4 (by kernel_rfl) ?hQ_4 ?hy_4 (by assumption) ?_
  case hi_4 => simp only [List.getElem?_toArray, List.getElem?_cons_zero, List.getElem?_cons_succ]; rfl
  case hf_4 => kernel_rfl
  case hQ_4 => exact fun _ _ _ h => h
  case hy_4 =>
    refine Or.inl ⟨by rfl, ?_⟩
    intro W hSw
    obtain ⟨q0, q1⟩ := hSw
    go_simp
    try with_reducible rfl
  try simp only [Act.put, List.setIfInBounds_toArray, List.set_cons_zero, List.set_cons_succ]
  refine wpAnyH_take (i := 4) (oi := ?oi_5) (v := ?_) ?hi_5 (by kernel_rfl) ?hf_5 (by kernel_rfl) ?hQ_5 ?hy_5 (by assumption) ?_
  case hi_5 => simp only [List.getElem?_toArray, List.getElem?_cons_zero, List.getElem?_cons_succ]; rfl
  case hf_5 => kernel_rfl
  case hQ_5 => exact fun _ _ _ h => h
  case hy_5 =>
    refine Or.inl ⟨by rfl, ?_⟩
    intro W hSw
    obtain ⟨q0, q1⟩ := hSw
    go_simp
    try with_reducible rfl
  try simp only [Act.put, List.setIfInBounds_toArray, List.set_cons_zero, List.set_cons_succ]
  refine wpAnyH_take (i := 5) (oi := ?oi_6) (v := ?_) ?hi_6 (by kernel_rfl) ?hf_6 (by kernel_rfl) ?hQ_6 ?hy_6 (by assumption) ?_
  case hi_6 => simp only [List.getElem?_toArray, List.getElem?_cons_zero, List.getElem?_cons_succ]; rfl
  case hf_6 => kernel_rfl
  case hQ_6 => exact fun _ _ _ h => h
  case hy_6 =>
    refine Or.inl ⟨by rfl, ?_⟩
    intro W hSw
    obtain ⟨q0, q1⟩ := hSw
    go_simp
    try with_reducible rfl
  try simp only [Act.put, List.setIfInBounds_toArray, List.set_cons_zero, List.set_cons_succ]
  refine wpAnyH_take (i := 6) (oi := ?oi_7) (v := ?_) ?hi_7 (by kernel_rfl) ?hf_7 (by kernel_rfl) ?hQ_7 ?hy_7 (by assumption) ?_
  case hi_7 => simp only [List.getElem?_toArray, List.getElem?_cons_zero, List.getElem?_cons_succ]; rfl
  case hf_7 => kernel_rfl
  case hQ_7 => exact fun _ _ _ h => h
  case hy_7 =>
    refine Or.inl ⟨by rfl, ?_⟩
    intro W hSw
    obtain ⟨q0, q1⟩ := hSw
    go_simp
    try with_reducible rfl
  try simp only [Act.put, List.setIfInBounds_toArray, List.set_cons_zero, List.set_cons_succ]
  refine wpAnyH_take (i := 7) (oi := ?oi_8) (v := ?_) ?hi_8 (by kernel_rfl) ?hf_8 (by kernel_rfl) ?hQ_8 ?hy_8 (by assumption) ?_
  case hi_8 => simp only [List.getElem?_toArray, List.getElem?_cons_zero, List.getElem?_cons_succ]; rfl
  case hf_8 => kernel_rfl
  case hQ_8 => exact fun _ _ _ h => h
  case hy_8 =>
    refine Or.inl ⟨by rfl, ?_⟩
    intro W hSw
    obtain ⟨q0, q1⟩ := hSw
    go_simp
    try with_reducible rfl
  try simp only [Act.put, List.setIfInBounds_toArray, List.set_cons_zero, List.set_cons_succ]
  refine wpAnyH_take (i := 8) (oi := ?oi_9) (v := ?_) ?hi_9 (by kernel_rfl) ?hf_9 (by kernel_rfl) ?hQ_9 ?hy_9 (by assumption) ?_
  case hi_9 => simp only [List.getElem?_toArray, List.getElem?_cons_zero, List.getElem?_cons_succ]; rfl
  case hf_9 => kernel_rfl
  case hQ_9 => exact fun _ _ _ h => h
  case hy_9 =>
    refine Or.inl ⟨by rfl, ?_⟩
    intro W hSw
    obtain ⟨q0, q1⟩ := hSw
    go_simp
    try with_reducible rfl
  try simp only [Act.put, List.setIfInBounds_toArray, List.set_cons_zero, List.set_cons_succ]
  refine wpAnyH_take (i := 9) (oi := ?oi_10) (v := ?_) ?hi_10 (by kernel_rfl) ?hf_10 (by kernel_rfl) ?hQ_10 ?hy_10 (by assumption) ?_
  case hi_10 => simp only [List.getElem?_toArray, List.getElem?_cons_zero, List.getElem?_cons_succ]; rfl
  case hf_10 => kernel_rfl
  case hQ_10 => exact fun _ _ _ h => h
  case hy_10 =>
    refine Or.inl ⟨by rfl, ?_⟩
    intro W hSw
    obtain ⟨q0, q1⟩ := hSw
    go_simp
    try with_reducible rfl
  try simp only [Act.put, List.setIfInBounds_toArray, List.set_cons_zero, List.set_cons_succ]
  refine wpAnyH_take (i := 10) (oi := ?oi_11) (v := ?_) ?hi_11 (by kernel_rfl) ?hf_11 (by kernel_rfl) ?hQ_11 ?hy_11 (by assumption) ?_
  case hi_11 => simp only [List.getElem?_toArray, List.getElem?_cons_zero, List.getElem?_cons_succ]; rfl
  case hf_11 => kernel_rfl
  case hQ_11 => exact fun _ _ _ h => h
  case hy_11 =>
    refine Or.inl ⟨by rfl, ?_⟩
    intro W hSw
    obtain ⟨q0, q1⟩ := hSw
    go_simp
    try with_reducible rfl
  try simp only [Act.put, List.setIfInBounds_toArray, List.set_cons_zero, List.set_cons_succ]
  refine wpAnyH_ready (rs := [11]) (by kernel_rfl) (by simp) ?_
  refine AllReadyH.cons (o := ?oi_12) ?hi_12 (fun K hK => ?_) AllReadyH.nil
  case hi_12 => simp only [List.getElem?_toArray, List.getElem?_cons_zero, List.getElem?_cons_succ]; rfl
  go_simp
  (go_at_call 41
   refine HBy.out.mono ?_
   rintro e w3 ⟨g, rfl, hg3, hy3, hb3⟩
   have HY3 := Lib.hid hy3
   have hF3 := Fr.of_below (S := fun _ => False) hb3
   have HF3 : Hid (Fr (fun _ => False) w1 w3) := Lib.hid hF3.undrew
   have HL3 := Lib.hid (HM.out.lay.fr hF3.undrew (fun _ _ q => q))
   have hK2 : w3.cell? ⟨A.p, 0, none⟩ = some (.pointer (some ⟨A.a, 0, none⟩)) ∧ w3.cell? ⟨A.fb, j * 6, none⟩ = some (.int .i64 (d.room j)) := ⟨HL3.out.blk.cell 0, by rw [← HRM.out]; exact HL3.out.fcell (by rw [HM.out.n]; exact hj) 0 rfl⟩
   have HG3 : Hid (w1.heap.size ≤ g) := Lib.hid hg3
   clear hg3 hy3 hb3 hF3)
  refine hK.out _ _ hK2 (fun hHeld => ?_)
  clear hK K
  try simp only [Act.put, List.setIfInBounds_toArray, List.set_cons_zero, List.set_cons_succ]
  refine wpAnyH_take (i := 12) (oi := ?oi_13) (v := ?_) ?hi_13 (by kernel_rfl) ?hf_13 (by kernel_rfl) ?hQ_13 ?hy_13 (by assumption) ?_
  case hi_13 => simp only [List.getElem?_toArray, List.getElem?_cons_zero, List.getElem?_cons_succ]; rfl
  case hf_13 => kernel_rfl
  case hQ_13 => exact fun _ _ _ h => h
  case hy_13 =>
    refine Or.inl ⟨by rfl, ?_⟩
    intro W hSw
    obtain ⟨q0, q1⟩ := hSw
    go_simp
    try with_reducible rfl
  try simp only [Act.put, List.setIfInBounds_toArray, List.set_cons_zero, List.set_cons_succ]
  refine wpAnyH_take (i := 13) (oi := ?oi_14) (v := ?_) ?hi_14 (by kernel_rfl) ?hf_14 (by kernel_rfl) ?hQ_14 ?hy_14 (by assumption) ?_
  case hi_14 => simp only [List.getElem?_toArray, List.getElem?_cons_zero, List.getElem?_cons_succ]; rfl
  case hf_14 => kernel_rfl
  case hQ_14 => exact fun _ _ _ h => h
  case hy_14 =>
    refine Or.inl ⟨by rfl, ?_⟩
    intro W hSw
    obtain ⟨q0, q1⟩ := hSw
    go_simp
    try with_reducible rfl
  try simp only [Act.put, List.setIfInBounds_toArray, List.set_cons_zero, List.set_cons_succ]
  refine wpAnyH_take (i := 14) (oi := ?oi_15) (v := ?_) ?hi_15 (by kernel_rfl) ?hf_15 (by kernel_rfl) ?hQ_15 ?hy_15 (by assumption) ?_
  case hi_15 => simp only [List.getElem?_toArray, List.getElem?_cons_zero, List.getElem?_cons_succ]; rfl
  case hf_15 => kernel_rfl
  case hQ_15 => exact fun _ _ _ h => h
  case hy_15 =>
    refine Or.inl ⟨by rfl, ?_⟩
    intro W hSw
    obtain ⟨q0, q1⟩ := hSw
    go_simp
    try with_reducible rfl
  try simp only [Act.put, List.setIfInBounds_toArray, List.set_cons_zero, List.set_cons_succ]
  refine wpAnyH_take (i := 15) (oi := ?oi_16) (v := ?_) ?hi_16 (by kernel_rfl) ?hf_16 (by kernel_rfl) ?hQ_16 ?hy_16 (by assumption) ?_
  case hi_16 => simp only [List.getElem?_toArray, List.getElem?_cons_zero, List.getElem?_cons_succ]; rfl
  case hf_16 => kernel_rfl
  case hQ_16 => exact fun _ _ _ h => h
  case hy_16 =>
    refine Or.inl ⟨by rfl, ?_⟩
    intro W hSw
    obtain ⟨q0, q1⟩ := hSw
    go_simp
    try with_reducible rfl
  try simp only [Act.put, List.setIfInBounds_toArray, List.set_cons_zero, List.set_cons_succ]
  refine wpAnyH_done (by kernel_rfl) ?_ _
  clear hHeld hK2 c0 f0
  go_wp2
  go_ret2
  refine ⟨g, j, d1, m1, rfl, ?_, HM.out.on HF3.out, hj, HT.out, HPG.out, HCHG.out, Nat.le_trans HM.out.fr.size HG3.out, fun q => Nat.lt_irrefl _ (Nat.lt_of_lt_of_le (HM.out.lay.flt q) HG3.out)⟩
  have hc := HM.out.pi.cont j (by rw [HM.out.n]; exact hj) HT.out (fun q => q)
  rw [HRM.out, HM.out.size, HPG.out] at hc
  have := HY3.out
  rw [← sub_read hc hon]
  exact this
end Go.Proofs.Ytlnffcledpccjaa
