/-
  arena.Arena.Bytes, where the bytes lie in a new block; pager.Pager.save.
-/
import Derived.Test.YtlnffcledpccjaaWb
import Derived.Deep.RegionHeld3
namespace Go.Proofs.Ytlnffcledpccjaa
open Go.RowKit
set_option linter.unusedVariables false
set_option linter.unusedSimpArgs false
def BnPost (d : Ad) (p n : Nat) (w : World) (e : Ending) (w' : World) : Prop :=
  ∃ b : Nat, e = .returned (.tuple #[.slice (some ⟨b, 0, none⟩) n n, .int .i64 0]) ∧ w.heap.size ≤ b ∧ Byt w' (some ⟨b, 0, none⟩) n n ((d.mem.drop p).take n) ∧ Below w.heap.size w w'
set_option maxHeartbeats 1000000 in
set_option maxRecDepth 100000 in
theorem Bytes_new (a bb rm gm : Nat) (d : Ad) (p n : Nat) (w : World) (h : Are w a bb rm gm d) (h0 : 0 < n) (hp : p + n ≤ d.sz) :
    Calls Try.prog 41 #[.pointer (some ⟨a, 0, none⟩), .int .i64 p, .int .i64 n] w (BnPost d p n w) := by
  obtain ⟨i0, hi, hz0, hz1, hz2⟩ := info_parts info5
  have HH := Lib.hid (Ahas_ok a bb rm gm d p n w h hp)
  have hlim := h.lim
  have H := Lib.hid h
  obtain ⟨X, hX⟩ : ∃ X, X = ((d.mem.drop p).take n).map U8 := ⟨_, rfl⟩
  have hlen : ((d.mem.drop p).take n).length = n := by rw [List.length_take, List.length_drop, h.len]; omega
  have HX := Lib.hid hX
  have HXl : Hid (X.length = n) := Lib.hid (by rw [hX, List.length_map]; exact hlen)
  have HX1 : Hid (∀ v ∈ X, v.oneCell' = true) := Lib.hid (by rw [hX]; exact u8_one _)
  have HLn := Lib.hid hlen
  obtain ⟨cur, hcur⟩ : ∃ cur, cur = (madeCells (Value.int .u8 0).cells n).toList := ⟨_, rfl⟩
  have hcurl : Hid (cur.length = n) := Lib.hid (by rw [hcur, Array.length_toList, size_madeCells])
  have hcurE : Hid (madeCells (Value.int .u8 0).cells n = cur.toArray) := Lib.hid (by rw [hcur])
  clear h hX hlen hcur
  go_enter Try.func41, Try.ntmps41
  go_wp2_with (first
    | (go_at_call 63; refine HH.out.mono ?_; rintro e w' ⟨rfl, rfl⟩)
    | (at_make
       refine wpList_make_lc _ rfl (.tmp 17) (.tmp 17) 34 rfl 5 i0 _ Try.underlying34 hi hz0 hz1 .i64 .i64 _ _ n n rfl rfl rfl rfl (Nat.le_refl _) (by rw [hz2]; omega) (by unfold maxLen; omega) ?_
       intro w2 hg2 hbel2
       have HG2 : Hid (Blk w2 w.heap.size 5 cur.toArray) := Lib.hid (by
         have := hg2.out
         rw [hcurE.out] at this
         exact this)
       have HB2 := Lib.hid hbel2
       have HS2 : Hid (Are w2 a bb rm gm d) := Lib.hid (H.out.below hbel2 (Nat.le_refl _))
       have c2 : w2.cell? ⟨a, 0, none⟩ = some (.slice (some ⟨bb, 0, none⟩) d.sz d.sz) := HS2.out.blk.cell 0
       clear hg2 hbel2)
    | (with_reducible refine wpList_copy_splice rfl (.tmp 19) (.tmp 25) 34 34 rfl 5 Try.underlying34 info5size (some ⟨w.heap.size, 0, none⟩) (some ⟨bb, p, none⟩) n n (d.sz - p) (d.sz - p) rfl rfl w.heap.size 0 cur 5 HG2.out.row X ?d1 ?d2 ?d3 HX1.out w.heap.size w HB2.out (Nat.le_refl _) ?_
       case d1 => rw [HXl.out]; exact (Nat.min_eq_right (by omega)).symm
       case d2 =>
         intro _
         refine ⟨rfl, _, rfl, fun j v hv => ?_⟩
         have hj : j < n := by
           have := (List.getElem?_eq_some_iff.1 hv).1
           rw [HXl.out] at this; exact this
         rw [HX.out, List.getElem?_map, List.getElem?_take_of_lt hj, List.getElem?_drop] at hv
         rw [addr_add, HS2.out.byt.cell, List.getElem?_toArray, List.getElem?_map]
         exact hv
       case d3 => rw [HXl.out, hcurl.out]; omega
       intro w3 hg3 hbel3
       have HB3 := Lib.hid hbel3
       clear hbel3))
  go_ret2
  have hfin : Blk w3 w.heap.size 5 (((d.mem.drop p).take n).map U8).toArray := by
    have := hg3.out
    rw [splice_all (by rw [HXl.out, hcurl.out]), HX.out] at this
    exact this
  exact ⟨w.heap.size, rfl, Nat.le_refl _, byt_of_blk hfin HLn.out (fun x hx => H.out.all x (List.mem_of_mem_drop (List.mem_of_mem_take hx))) (by unfold maxLen; omega), HB3.out⟩
/-- what save leaves -/
structure Svd (A : Pa) (d d' : Pd) (mem : List Nat) (C : Nat × Nat → List Nat) (W : List (Nat × Nat)) (i : Nat) (w w' : World) : Prop where
  lay : Lay w' A d'
  pi : PI d' mem C W (fun _ => False)
  n : d'.n = d.n
  room : d'.room = d.room
  pg : d'.pg = d.pg
  tk : d'.tk = d.tk
  th : d'.th = d.th
  hand : d'.hand = d.hand
  st : d'.st = d.st
  size : d'.sd.size = d.sd.size
  cap : d'.sd.cap = d.sd.cap
  ops : d'.sd.ops ≤ d.sd.ops + 2
  fr : Fr (foot A d) w w'
  ft : ∀ k, foot A d' k → foot A d k ∨ w.heap.size ≤ k
  saved : d.tk i = true → (C (d.pg i) = zs d.sd.size → d'.blk (d.pg i) = none) ∧ (C (d.pg i) ≠ zs d.sd.size → ∃ id, d'.blk (d.pg i) = some id ∧ d'.sd.B id = some (C (d.pg i)))
  others : ∀ x, x ≠ d.pg i → d'.blk x = d.blk x
  chg : ∀ k, d'.ch k = true → d.ch k = true
def SvPost (A : Pa) (d : Pd) (mem : List Nat) (C : Nat × Nat → List Nat) (W : List (Nat × Nat)) (i : Nat) (w : World) (e : Ending) (w' : World) : Prop :=
  e = .returned (.int .i64 0) ∧ ∃ d', Svd A d d' mem C W i w w'
set_option maxHeartbeats 1000000 in
set_option maxRecDepth 100000 in
theorem save_no {w : World} {A : Pa} {d : Pd} {mem : List Nat} {C : Nat × Nat → List Nat} {W : List (Nat × Nat)} (h : Lay w A d) (hp : PI d mem C W (fun _ => False)) (i : Nat) (hi : i < d.n) (ht : d.tk i = false) :
    Calls Try.prog 47 #[.pointer (some ⟨A.p, 0, none⟩), .int .i64 i] w (SvPost A d mem C W i w) := by
  have c2 : w.cell? ⟨A.p, 2, none⟩ = some (.slice (some ⟨A.fb, 0, none⟩) d.n A.cap) := h.blk.cell 2
  have f3 : w.cell? ⟨A.fb, i * 6 + 3, none⟩ = some (.bool false) := by rw [← ht]; exact h.fcell hi 3 rfl
  have hn2 := h.n2
  have H := Lib.hid h
  have HP := Lib.hid hp
  have HT := Lib.hid ht
  clear h hp ht
  go_enter Try.func47, Try.ntmps47
  go_wp2
  go_ret
  exact ⟨rfl, d, H.out, HP.out, rfl, rfl, rfl, rfl, rfl, rfl, rfl, rfl, rfl, Nat.le_add_right _ _, Fr.refl _ _, fun k hk => .inl hk, fun q => (by rw [HT.out] at q; cases q), fun x _ => rfl, fun _ q => q⟩
theorem foot_fre {A : Pa} {d : Pd} {x : Nat × Nat} {id : Nat} {k : Nat} : foot A (d.fre x id) k → foot A d k := by
  rintro (q | q | q | q | q | q | ⟨i, hi', q⟩)
  · exact .inl q
  · exact .inr (.inl q)
  · exact .inr (.inr (.inl q))
  · exact .inr (.inr (.inr (.inl q)))
  · exact .inr (.inr (.inr (.inr (.inl q))))
  · exact .inr (.inr (.inr (.inr (.inr (.inl q)))))
  · refine .inr (.inr (.inr (.inr (.inr (.inr ⟨i, ?_, q⟩)))))
    by_cases e : i = id
    · simp [Pd.fre, Sd.fr, e] at hi'
    · simpa [Pd.fre, Sd.fr, Sd.op, e] using hi'
theorem frS_foot {A : Pa} {d : Pd} {k : Nat} : frS A k → foot A d k := by
  rintro (q | q | q | q)
  · exact .inl q
  · exact .inr (.inr (.inr (.inl q)))
  · exact .inr (.inr (.inr (.inr (.inl q))))
  · exact .inr (.inr (.inr (.inr (.inr (.inl q)))))
section
variable {w : World} {A : Pa} {d : Pd} {mem : List Nat} {C : Nat × Nat → List Nat} {W : List (Nat × Nat)}
theorem free_mid (h : Lay w A d) (hp : PI d mem C W (fun _ => False)) (i a b : Nat) (hi : i < d.n) (ht : d.tk i = true) (hab : d.pg i = (a, b)) (hz : C (d.pg i) = zs d.sd.size) (ho : d.sd.ops < 900000) :
    Calls Try.prog 45 #[.pointer (some ⟨A.p, 0, none⟩), .agg #[.int .i64 a, .int .i64 b]] w (SvPost A d mem C W i w) := by
  have hx : small (a, b) := hab ▸ hp.sm i hi
  cases hb : d.blk (d.pg i) with
  | none =>
    refine (free_no h a b hx (by rw [← hab]; exact hb)).mono ?_
    rintro e w' ⟨rfl, hf⟩
    exact ⟨rfl, d, h.fr hf (fun _ _ q => q), hp, rfl, rfl, rfl, rfl, rfl, rfl, rfl, rfl, rfl, Nat.le_add_right _ _, hf.more (fun _ q => q.elim), fun k hk => .inl hk, fun _ => ⟨fun _ => hb, fun q => absurd hz q⟩, fun x _ => rfl, fun _ q => q⟩
  | some id =>
    refine (free_yes h a b id hx (by rw [← hab]; exact hb) (hp.bin _ _ hb) (by omega)).mono ?_
    rintro e w' ⟨rfl, hl, hf⟩
    rw [← hab] at hl
    exact ⟨rfl, d.fre (d.pg i) id, hl, hp.fre hi ht hb (fun _ => hz), rfl, rfl, rfl, rfl, rfl, rfl, rfl, rfl, rfl, by show d.sd.ops + 1 ≤ _; omega, hf.more (fun _ q => frS_foot q), fun k hk => .inl (foot_fre hk), fun _ => ⟨fun _ => upd_same _ _ _, fun q => absurd hz q⟩, fun x hx => upd_other _ _ _ hx, fun _ q => q⟩
theorem foot_new {A : Pa} {d : Pd} {x : Nat × Nat} {L G : Nat} {l : List Nat} {k : Nat} : foot A { d with blk := upd d.blk x (some L), sd := (d.sd.op.al L G).op.wr L l } k → foot A d k ∨ k = G := by
  rintro (q | q | q | q | q | q | ⟨i, hi', q⟩)
  · exact .inl (.inl q)
  · exact .inl (.inr (.inl q))
  · exact .inl (.inr (.inr (.inl q)))
  · exact .inl (.inr (.inr (.inr (.inl q))))
  · exact .inl (.inr (.inr (.inr (.inr (.inl q)))))
  · exact .inl (.inr (.inr (.inr (.inr (.inr (.inl q))))))
  · by_cases e : i = L
    · refine .inr ?_
      rw [← q, e]
      simp [Sd.wr, Sd.op, Sd.al]
    · refine .inl (.inr (.inr (.inr (.inr (.inr (.inr ⟨i, ?_, ?_⟩))))))
      · simpa [Sd.wr, Sd.op, Sd.al, e] using hi'
      · rw [← q]; simp [Sd.wr, Sd.op, Sd.al, e]
theorem keep_mid (h : Lay w A d) (hp : PI d mem C W (fun _ => False)) (i a b g cp : Nat) (hi : i < d.n) (ht : d.tk i = true) (hc : d.ch i = true) (hab : d.pg i = (a, b)) (hz : C (d.pg i) ≠ zs d.sd.size) (ho : d.sd.ops < 900000)
    (hW : W.length ≤ d.sd.cap) (hy : Byt w (some ⟨g, 0, none⟩) d.sd.size cp (C (d.pg i))) (hg : ¬ foot A d g) (hgl : g < w.heap.size) :
    Calls Try.prog 70 #[.pointer (some ⟨A.p, 0, none⟩), .agg #[.int .i64 a, .int .i64 b], .slice (some ⟨g, 0, none⟩) d.sd.size cp] w (SvPost A d mem C W i w) := by
  have hx : small (a, b) := hab ▸ hp.sm i hi
  cases hb : d.blk (d.pg i) with
  | none =>
    have hw := hp.wc i hi ht hc
    have hlt := h.bls.count_lt W hp.wb hw hb
    refine (keep_new h a b g 0 cp _ hx (by rw [← hab]; exact hb) (by omega) (by omega) hy hg hgl).mono ?_
    rintro e w' ⟨L, G, hL, hG, rfl, hl, hf⟩
    rw [← hab] at hl
    exact ⟨rfl, _, hl, hp.new hi ht hb hL hw (fun _ => rfl), rfl, rfl, rfl, rfl, rfl, rfl, rfl, rfl, rfl, by show d.sd.ops + 1 + 1 ≤ _; omega, hf, fun k hk => by
      rcases foot_new hk with q | q
      · exact .inl q
      · exact .inr (by omega), fun _ => ⟨fun q => absurd q hz, fun _ => ⟨L, upd_same _ _ _, by simp [Sd.wr]⟩⟩, fun x hx => upd_other _ _ _ hx, fun _ q => q⟩
  | some id =>
    refine (keep_has h a b id g 0 cp _ hx (by rw [← hab]; exact hb) (hp.bin _ _ hb) (by omega) hy hg).mono ?_
    rintro e w' ⟨rfl, hl, hf⟩
    exact ⟨rfl, _, hl, hp.wr hi ht hb (fun _ => rfl), rfl, rfl, rfl, rfl, rfl, rfl, rfl, rfl, rfl, by show d.sd.ops + 1 ≤ _; omega, hf, fun k hk => .inl (foot_wr (hp.bin _ _ hb) hk), fun _ => ⟨fun q => absurd q hz, fun _ => ⟨id, hb, by simp [Sd.wr]⟩⟩, fun x _ => rfl, fun _ q => q⟩
/-- the frame's mark that it was changed is struck -/
theorem Svd.strike {d1 : Pd} {i : Nat} {w1 : World} (h : Svd A d d1 mem C W i w w1) (hi : i < d.n) (ht : d.tk i = true) : Svd A d { d1 with ch := setB d1.ch i false } mem C W i w (w1.setCell ⟨A.fb, i * 6 + 5, none⟩ (.bool false)) := by
  have hi1 : i < d1.n := by rw [h.n]; exact hi
  have ht1 : d1.tk i = true := by rw [h.tk]; exact ht
  have hs := h.saved ht
  have hpg : d1.pg i = d.pg i := by rw [h.pg]
  refine ⟨h.lay.setch hi1 false, h.pi.clean hi1 ht1 (fun _ => ?_), h.n, h.room, h.pg, h.tk, h.th, h.hand, h.st, h.size, h.cap, h.ops, h.fr.set_ (p := ⟨A.fb, i * 6 + 5, none⟩) (.inr (.inl rfl)) _, h.ft, h.saved, h.others, fun k hk => h.chg k (by by_cases e : k = i; (simp [setB, e] at hk); (simpa [setB, e] using hk))⟩
  rw [hpg]
  by_cases hz : C (d.pg i) = zs d.sd.size
  · refine ⟨fun id hid => ?_, fun _ => by rw [h.size]; exact hz⟩
    rw [hs.1 hz] at hid; cases hid
  · obtain ⟨id, h1, h2⟩ := hs.2 hz
    refine ⟨fun id' hid => ?_, fun hn => ?_⟩
    · rw [h1] at hid; rw [← Option.some.inj hid]; exact h2
    · rw [h1] at hn; cases hn
set_option maxHeartbeats 2000000 in
set_option maxRecDepth 100000 in
theorem save_yes {bb rm gm : Nat} {ad : Ad} (h : Lay w A d) (ha : Are w A.a bb rm gm ad) (hp : PI d ad.mem C W (fun _ => False)) (i : Nat) (hi : i < d.n) (ht : d.tk i = true) (ho : d.sd.ops < 900000) (hW : W.length ≤ d.sd.cap) :
    Calls Try.prog 47 #[.pointer (some ⟨A.p, 0, none⟩), .int .i64 i] w (SvPost A d ad.mem C W i w) := by
  have c2 : w.cell? ⟨A.p, 2, none⟩ = some (.slice (some ⟨A.fb, 0, none⟩) d.n A.cap) := h.blk.cell 2
  have c0 : w.drew.cell? ⟨A.p, 0, none⟩ = some (.pointer (some ⟨A.a, 0, none⟩)) := h.blk.cell 0
  have f0 : w.drew.cell? ⟨A.fb, i * 6, none⟩ = some (.int .i64 (d.room i)) := (h.drewN 1).fcell hi 0 rfl
  have f3 : w.cell? ⟨A.fb, i * 6 + 3, none⟩ = some (.bool true) := by rw [← ht]; exact h.fcell hi 3 rfl
  have hn2 := h.n2
  have hs1 := h.sto.lo
  have hs2 := h.sto.hi
  have hlim := ha.lim
  have hrin := hp.rin i hi
  have hml := ha.len
  have hHS : Calls Try.prog 54 #[.pointer (some ⟨A.p, 0, none⟩)] w.drew fun e w' => e = .returned (.int .i64 d.sd.size) ∧ w.drew = w' := PSize_ok (h.drewN 1)
  have HS := Lib.hid hHS
  have hHB := Bytes_new A.a bb rm gm ad (d.room i) d.sd.size w.drew (ha.drewN 1) (by omega) (by omega)
  unfold BnPost at hHB
  rw [hp.cont i hi ht (fun q => q)] at hHB
  have HB := Lib.hid hHB
  have HPL : Hid (A.p < w.drew.heap.size) := Lib.hid h.blk.lt
  have HFL : Hid (A.fb < w.drew.heap.size) := Lib.hid h.frs.lt
  obtain ⟨⟨a, b⟩, hab⟩ : ∃ x, x = d.pg i := ⟨_, rfl⟩
  have H := Lib.hid h
  have HP := Lib.hid hp
  have HAB := Lib.hid hab
  have HT := Lib.hid ht
  clear h hp ha ht hHS hHB hab hrin hml
  go_enter Try.func47, Try.ntmps47
  go_wp2
  refine wp_region_held_drew (S := (fun W => W.cell? ⟨A.p, 0, none⟩ = some (.pointer (some ⟨A.a, 0, none⟩)) ∧ W.cell? ⟨A.fb, i * 6, none⟩ = some (.int .i64 (d.room i)))) (by kernel_rfl) ⟨c0, f0⟩ (fun hHeld => ?_)
  refine wpAnyH_take (i := 0) (oi := ?oi_1) (v := ?_) ?hi_1 (by kernel_rfl) ?hf_1 (by kernel_rfl) ?hQ_1 ?hy_1 (by assumption) ?_
  case hi_1 => simp only [List.getElem?_toArray, List.getElem?_cons_zero, List.getElem?_cons_succ]; rfl
  case hf_1 => kernel_rfl
  case hQ_1 => exact fun _ _ _ h => h
  case hy_1 =>
    refine Or.inl ⟨by rfl, ?_⟩
    intro W hSw
    obtain ⟨q0, q1⟩ := hSw
    go_simp
    try with_reducible rfl
  try simp only [Act.put, List.setIfInBounds_toArray, List.set_cons_zero, List.set_cons_succ]
  refine wpAnyH_take (i := 1) (oi := ?oi_2) (v := ?_) ?hi_2 (by kernel_rfl) ?hf_2 (by kernel_rfl) ?hQ_2 ?hy_2 (by assumption) ?_
  case hi_2 => simp only [List.getElem?_toArray, List.getElem?_cons_zero, List.getElem?_cons_succ]; rfl
  case hf_2 => kernel_rfl
  case hQ_2 => exact fun _ _ _ h => h
  case hy_2 =>
    refine Or.inl ⟨by rfl, ?_⟩
    intro W hSw
    obtain ⟨q0, q1⟩ := hSw
    go_simp
    try with_reducible rfl
  try simp only [Act.put, List.setIfInBounds_toArray, List.set_cons_zero, List.set_cons_succ]
  refine wpAnyH_take (i := 2) (oi := ?oi_3) (v := ?_) ?hi_3 (by kernel_rfl) ?hf_3 (by kernel_rfl) ?hQ_3 ?hy_3 (by assumption) ?_
  case hi_3 => simp only [List.getElem?_toArray, List.getElem?_cons_zero, List.getElem?_cons_succ]; rfl
  case hf_3 => kernel_rfl
  case hQ_3 => exact fun _ _ _ h => h
  case hy_3 =>
    refine Or.inl ⟨by rfl, ?_⟩
    intro W hSw
    obtain ⟨q0, q1⟩ := hSw
    go_simp
    try with_reducible rfl
  try simp only [Act.put, List.setIfInBounds_toArray, List.set_cons_zero, List.set_cons_succ]
  refine wpAnyH_take (i := 3) (oi := ?oi_4) (v := ?_) ?hi_4 (by kernel_rfl) ?hf_4 (by kernel_rfl) ?hQ_4 ?hy_4 (by assumption) ?_
  case hi_4 => simp only [List.getElem?_toArray, List.getElem?_cons_zero, List.getElem?_cons_succ]; rfl
  case hf_4 => kernel_rfl
  case hQ_4 => exact fun _ _ _ h => h
  case hy_4 =>
    refine Or.inl ⟨by rfl, ?_⟩
    intro W hSw
    obtain ⟨q0, q1⟩ := hSw
    go_simp
    try with_reducible rfl
  try simp only [Act.put, List.setIfInBounds_toArray, List.set_cons_zero, List.set_cons_succ]
  refine wpAnyH_take (i := 4) (oi := ?oi_5) (v := ?_) ?hi_5 (by kernel_rfl) ?hf_5 (by kernel_rfl) ?hQ_5 ?hy_5 (by assumption) ?_
  case hi_5 => simp only [List.getElem?_toArray, List.getElem?_cons_zero, List.getElem?_cons_succ]; rfl
  case hf_5 => kernel_rfl
  case hQ_5 => exact fun _ _ _ h => h
  case hy_5 =>
    refine Or.inl ⟨by rfl, ?_⟩
    intro W hSw
    obtain ⟨q0, q1⟩ := hSw
    go_simp
    try with_reducible rfl
  try simp only [Act.put, List.setIfInBounds_toArray, List.set_cons_zero, List.set_cons_succ]
  refine wpAnyH_take (i := 5) (oi := ?oi_6) (v := ?_) ?hi_6 (by kernel_rfl) ?hf_6 (by kernel_rfl) ?hQ_6 ?hy_6 (by assumption) ?_
  case hi_6 => simp only [List.getElem?_toArray, List.getElem?_cons_zero, List.getElem?_cons_succ]; rfl
  case hf_6 => kernel_rfl
  case hQ_6 => exact fun _ _ _ h => h
  case hy_6 =>
    refine Or.inl ⟨by rfl, ?_⟩
    intro W hSw
    obtain ⟨q0, q1⟩ := hSw
    go_simp
    try with_reducible rfl
  try simp only [Act.put, List.setIfInBounds_toArray, List.set_cons_zero, List.set_cons_succ]
  refine wpAnyH_take (i := 6) (oi := ?oi_7) (v := ?_) ?hi_7 (by kernel_rfl) ?hf_7 (by kernel_rfl) ?hQ_7 ?hy_7 (by assumption) ?_
  case hi_7 => simp only [List.getElem?_toArray, List.getElem?_cons_zero, List.getElem?_cons_succ]; rfl
  case hf_7 => kernel_rfl
  case hQ_7 => exact fun _ _ _ h => h
  case hy_7 =>
    refine Or.inl ⟨by rfl, ?_⟩
    intro W hSw
    obtain ⟨q0, q1⟩ := hSw
    go_simp
    try with_reducible rfl
  try simp only [Act.put, List.setIfInBounds_toArray, List.set_cons_zero, List.set_cons_succ]
  refine wpAnyH_take (i := 7) (oi := ?oi_8) (v := ?_) ?hi_8 (by kernel_rfl) ?hf_8 (by kernel_rfl) ?hQ_8 ?hy_8 (by assumption) ?_
  case hi_8 => simp only [List.getElem?_toArray, List.getElem?_cons_zero, List.getElem?_cons_succ]; rfl
  case hf_8 => kernel_rfl
  case hQ_8 => exact fun _ _ _ h => h
  case hy_8 =>
    refine Or.inl ⟨by rfl, ?_⟩
    intro W hSw
    obtain ⟨q0, q1⟩ := hSw
    go_simp
    try with_reducible rfl
  try simp only [Act.put, List.setIfInBounds_toArray, List.set_cons_zero, List.set_cons_succ]
  refine wpAnyH_take (i := 8) (oi := ?oi_9) (v := ?_) ?hi_9 (by kernel_rfl) ?hf_9 (by kernel_rfl) ?hQ_9 ?hy_9 (by assumption) ?_
  case hi_9 => simp only [List.getElem?_toArray, List.getElem?_cons_zero, List.getElem?_cons_succ]; rfl
  case hf_9 => kernel_rfl
  case hQ_9 => exact fun _ _ _ h => h
  case hy_9 =>
    refine Or.inl ⟨by rfl, ?_⟩
    intro W hSw
    obtain ⟨q0, q1⟩ := hSw
    go_simp
    try with_reducible rfl
  try simp only [Act.put, List.setIfInBounds_toArray, List.set_cons_zero, List.set_cons_succ]
  refine wpAnyH_ready (rs := [9]) (by kernel_rfl) (by simp) ?_
  refine AllReadyH.cons (o := ?oi_10) ?hi_10 (fun K hK => ?_) AllReadyH.nil
  case hi_10 => simp only [List.getElem?_toArray, List.getElem?_cons_zero, List.getElem?_cons_succ]; rfl
  go_simp
  (go_at_call 54; refine HS.out.mono ?_; rintro e w0 ⟨rfl, rfl⟩)
  refine hK.out _ _ hHeld (fun hHeld => ?_)
  clear hK K
  try simp only [Act.put, List.setIfInBounds_toArray, List.set_cons_zero, List.set_cons_succ]
  refine wpAnyH_ready (rs := [10]) (by kernel_rfl) (by simp) ?_
  refine AllReadyH.cons (o := ?oi_11) ?hi_11 (fun K hK => ?_) AllReadyH.nil
  case hi_11 => simp only [List.getElem?_toArray, List.getElem?_cons_zero, List.getElem?_cons_succ]; rfl
  go_simp
  (go_at_call 41
   refine HB.out.mono ?_
   rintro e w1 ⟨bq, rfl, hb0, hb1, hb2⟩
   have hK2 : w1.cell? ⟨A.p, 0, none⟩ = some (.pointer (some ⟨A.a, 0, none⟩)) ∧ w1.cell? ⟨A.fb, i * 6, none⟩ = some (.int .i64 (d.room i)) := ⟨(hb2.cell (p := ⟨A.p, 0, none⟩) HPL.out).trans hHeld.1, (hb2.cell (p := ⟨A.fb, i * 6, none⟩) HFL.out).trans hHeld.2⟩
   have HB0 := Lib.hid hb0
   have HB1 := Lib.hid hb1
   have HB2 := Lib.hid hb2
   clear hb0 hb1 hb2)
  refine hK.out _ _ hK2 (fun hHeld => ?_)
  clear hK K
  try simp only [Act.put, List.setIfInBounds_toArray, List.set_cons_zero, List.set_cons_succ]
  refine wpAnyH_take (i := 11) (oi := ?oi_12) (v := ?_) ?hi_12 (by kernel_rfl) ?hf_12 (by kernel_rfl) ?hQ_12 ?hy_12 (by assumption) ?_
  case hi_12 => simp only [List.getElem?_toArray, List.getElem?_cons_zero, List.getElem?_cons_succ]; rfl
  case hf_12 => kernel_rfl
  case hQ_12 => exact fun _ _ _ h => h
  case hy_12 =>
    refine Or.inl ⟨by rfl, ?_⟩
    intro W hSw
    obtain ⟨q0, q1⟩ := hSw
    go_simp
    try with_reducible rfl
  try simp only [Act.put, List.setIfInBounds_toArray, List.set_cons_zero, List.set_cons_succ]
  refine wpAnyH_take (i := 12) (oi := ?oi_13) (v := ?_) ?hi_13 (by kernel_rfl) ?hf_13 (by kernel_rfl) ?hQ_13 ?hy_13 (by assumption) ?_
  case hi_13 => simp only [List.getElem?_toArray, List.getElem?_cons_zero, List.getElem?_cons_succ]; rfl
  case hf_13 => kernel_rfl
  case hQ_13 => exact fun _ _ _ h => h
  case hy_13 =>
    refine Or.inl ⟨by rfl, ?_⟩
    intro W hSw
    obtain ⟨q0, q1⟩ := hSw
    go_simp
    try with_reducible rfl
  try simp only [Act.put, List.setIfInBounds_toArray, List.set_cons_zero, List.set_cons_succ]
  refine wpAnyH_take (i := 13) (oi := ?oi_14) (v := ?_) ?hi_14 (by kernel_rfl) ?hf_14 (by kernel_rfl) ?hQ_14 ?hy_14 (by assumption) ?_
  case hi_14 => simp only [List.getElem?_toArray, List.getElem?_cons_zero, List.getElem?_cons_succ]; rfl
  case hf_14 => kernel_rfl
  case hQ_14 => exact fun _ _ _ h => h
  case hy_14 =>
    refine Or.inl ⟨by rfl, ?_⟩
    intro W hSw
    obtain ⟨q0, q1⟩ := hSw
    go_simp
    try with_reducible rfl
  try simp only [Act.put, List.setIfInBounds_toArray, List.set_cons_zero, List.set_cons_succ]
  refine wpAnyH_take (i := 14) (oi := ?oi_15) (v := ?_) ?hi_15 (by kernel_rfl) ?hf_15 (by kernel_rfl) ?hQ_15 ?hy_15 (by assumption) ?_
  case hi_15 => simp only [List.getElem?_toArray, List.getElem?_cons_zero, List.getElem?_cons_succ]; rfl
  case hf_15 => kernel_rfl
  case hQ_15 => exact fun _ _ _ h => h
  case hy_15 =>
    refine Or.inl ⟨by rfl, ?_⟩
    intro W hSw
    obtain ⟨q0, q1⟩ := hSw
    go_simp
    try with_reducible rfl
  try simp only [Act.put, List.setIfInBounds_toArray, List.set_cons_zero, List.set_cons_succ]
  refine wpAnyH_take (i := 15) (oi := ?oi_16) (v := ?_) ?hi_16 (by kernel_rfl) ?hf_16 (by kernel_rfl) ?hQ_16 ?hy_16 (by assumption) ?_
  case hi_16 => simp only [List.getElem?_toArray, List.getElem?_cons_zero, List.getElem?_cons_succ]; rfl
  case hf_16 => kernel_rfl
  case hQ_16 => exact fun _ _ _ h => h
  case hy_16 =>
    refine Or.inl ⟨by rfl, ?_⟩
    intro W hSw
    obtain ⟨q0, q1⟩ := hSw
    go_simp
    try with_reducible rfl
  try simp only [Act.put, List.setIfInBounds_toArray, List.set_cons_zero, List.set_cons_succ]
  refine wpAnyH_done (by kernel_rfl) ?_ _
  clear hHeld hK2 c0 f0
  have hL1 : Lay w1 A d := (H.out.drewN 1).below HB2.out
  have f1 : w1.cell? ⟨A.fb, i * 6 + 1, none⟩ = some (.int .i64 a) := hL1.fcell hi 1 (by simp [frC, ← HAB.out, I64])
  have f2 : w1.cell? ⟨A.fb, i * 6 + 2, none⟩ = some (.int .i64 b) := hL1.fcell hi 2 (by simp [frC, ← HAB.out, I64])
  have hF1 : Fr (fun _ => False) w w1 := Fr.undrew (Fr.of_below HB2.out)
  have hgl : bq < w1.heap.size := by obtain ⟨b', off, e, hlt, _⟩ := HB1.out.2.2.2.2 (by omega); injection e with e; injection e with e1 _; omega
  have hgf : ¬ foot A d bq := fun q => by have h1 := H.out.flt q; have h2 := HB0.out; have h3 : w.drew.heap.size = w.heap.size := rfl; omega
  have hZ := zero_any (some ⟨bq, 0, none⟩) d.sd.size d.sd.size _ w1 HB1.out
  rw [all_zs HB1.out.1] at hZ
  have HL1 := Lib.hid hL1
  have HF1 := Lib.hid hF1
  have HGL := Lib.hid hgl
  have HGF := Lib.hid hgf
  have fin : Hid (∀ d1 w2, Svd A d d1 ad.mem C W i w1 w2 → Svd A d d1 ad.mem C W i w w2) := Lib.hid (fun d1 w2 hs =>
    ⟨hs.lay, hs.pi, hs.n, hs.room, hs.pg, hs.tk, hs.th, hs.hand, hs.st, hs.size, hs.cap, hs.ops, (HF1.out.more (fun _ q => q.elim)).trans hs.fr, fun k hk => by
      rcases hs.ft k hk with q | q
      · exact .inl q
      · exact .inr (Nat.le_trans HF1.out.size q), hs.saved, hs.others, hs.chg⟩)
  by_cases hz : C (d.pg i) = zs d.sd.size
  · rw [decide_eq_true hz] at hZ
    have HZ := Lib.hid hZ
    have HC := Lib.hid hz
    clear hZ hz hL1 hF1 hgl hgf
    go_wp2_with (first
      | (go_at_call 69; refine HZ.out.mono ?_; rintro e w2 ⟨rfl, rfl⟩)
      | (go_at_call 45
         refine (free_mid HL1.out HP.out i a b hi HT.out HAB.out.symm HC.out ho).mono ?_
         rintro e w2 ⟨rfl, d1, hs⟩
         have HS2 := Lib.hid hs
         have f5 : w2.cell? ⟨A.fb, i * 6 + 5, none⟩ = some (.bool (d1.ch i)) := hs.lay.fcell (by rw [hs.n]; exact hi) 5 rfl
         have z5 := hs.lay.ffrozen (i * 6 + 5)
         clear hs))
    go_ret
    exact ⟨rfl, _, fin.out _ _ (HS2.out.strike hi HT.out)⟩
  · rw [decide_eq_false hz] at hZ
    have HZ := Lib.hid hZ
    have HC := Lib.hid hz
    clear hZ hz hF1 hgl hgf
    cases hch : d.ch i with
    | true =>
      have f5a : w1.cell? ⟨A.fb, i * 6 + 5, none⟩ = some (.bool true) := by rw [← hch]; exact hL1.fcell hi 5 rfl
      have HCH := Lib.hid hch
      clear hch hL1
      go_wp2_with (first
        | (go_at_call 69; refine HZ.out.mono ?_; rintro e w2 ⟨rfl, rfl⟩)
        | (go_at_call 70
           refine (keep_mid HL1.out HP.out i a b bq d.sd.size hi HT.out HCH.out HAB.out.symm HC.out ho hW HB1.out HGF.out HGL.out).mono ?_
           rintro e w2 ⟨rfl, d1, hs⟩
           have HS2 := Lib.hid hs
           have f5 : w2.cell? ⟨A.fb, i * 6 + 5, none⟩ = some (.bool (d1.ch i)) := hs.lay.fcell (by rw [hs.n]; exact hi) 5 rfl
           have z5 := hs.lay.ffrozen (i * 6 + 5)
           clear hs))
      go_ret
      exact ⟨rfl, _, fin.out _ _ (HS2.out.strike hi HT.out)⟩
    | false =>
      have f5a : w1.cell? ⟨A.fb, i * 6 + 5, none⟩ = some (.bool false) := by rw [← hch]; exact hL1.fcell hi 5 rfl
      have z5 := hL1.ffrozen (i * 6 + 5)
      have HCH := Lib.hid hch
      clear hch hL1
      go_wp2_with (first
        | (go_at_call 69; refine HZ.out.mono ?_; rintro e w2 ⟨rfl, rfl⟩))
      go_ret
      have hcl := HP.out.cl i hi HT.out (fun q => q) HCH.out
      have hs : Svd A d d ad.mem C W i w1 w1 := ⟨HL1.out, HP.out, rfl, rfl, rfl, rfl, rfl, rfl, rfl, rfl, rfl, Nat.le_add_right _ _, Fr.refl _ _, fun k hk => .inl hk, fun _ => ⟨fun q => absurd q HC.out, fun _ => by
        cases hb : d.blk (d.pg i) with
        | none => exact absurd (hcl.2 hb) HC.out
        | some id => exact ⟨id, rfl, hcl.1 id hb⟩⟩, fun x _ => rfl, fun _ q => q⟩
      exact ⟨rfl, _, fin.out _ _ (hs.strike hi HT.out)⟩
end
end Go.Proofs.Ytlnffcledpccjaa
