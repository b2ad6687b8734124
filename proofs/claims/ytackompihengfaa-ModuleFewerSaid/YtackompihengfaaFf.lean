/-
  The law's To of types (9), and of bodies (12).
-/
import Derived.Test.YtackompihengfaaFe
import Derived.Deep.RegionHeld3
namespace Go.Proofs.Ytackompihengfaa
open Go.RowKit Go.ChangeShapes Go.WideShapes Go.ChangeAt
set_option linter.unusedVariables false
set_option linter.unusedSimpArgs false
def U8 (x : Nat) : Value := .int .u8 (x : Nat)
def Byt (w : World) (A : Option Addr) (n cap : Nat) (l : List Nat) : Prop :=
  l.length = n ∧ (∀ x ∈ l, x < 256) ∧ n ≤ cap ∧ cap ≤ maxLen ∧ (0 < n → ∃ b off, A = some ⟨b, off, none⟩ ∧ b < w.heap.size ∧ ∀ j, j < n → w.cell? ⟨b, off + j, none⟩ = some (.int .u8 ((l.getD j 0 : Nat) : Int)))
theorem Byt.below {w w' : World} {A : Option Addr} {n cap : Nat} {l : List Nat} (h : Byt w A n cap l) (hb : Below w.heap.size w w') : Byt w' A n cap l := by
  obtain ⟨hl, hx, hn, hcap, hc⟩ := h
  refine ⟨hl, hx, hn, hcap, fun h0 => ?_⟩
  obtain ⟨b, off, rfl, hbl, hcell⟩ := hc h0
  exact ⟨b, off, rfl, Nat.lt_of_lt_of_le hbl hb.size, fun j hj => (hb.cell (p := ⟨b, off + j, none⟩) hbl).trans (hcell j hj)⟩
theorem byt_nil (w : World) : Byt w none 0 0 [] := ⟨rfl, by simp, Nat.le_refl _, Nat.zero_le _, fun h => by omega⟩
theorem map_getD (l : List Nat) (j : Nat) (h : j < l.length) : (l.map U8)[j]? = some (U8 (l.getD j 0)) := by
  rw [List.getElem?_map, List.getElem?_eq_getElem h, List.getD_eq_getElem?_getD, List.getElem?_eq_getElem h]; rfl
/-- a row of one's own reads as bytes -/
theorem Byt.own {w : World} {B E n cap : Nat} {A : Option Addr} {l : List Nat} (h : w.ownsRow B E 1 (.slice A n cap) n (l.map U8)) (hx : ∀ x ∈ l, x < 256) : Byt w A n cap l := by
  have hlen : l.length = n := by have := h.1; rw [List.length_map] at this; omega
  rcases h.2 with ⟨e, h0⟩ | ⟨g, cap', cur, e, hB, hg, hnc, hm, hcs, htk⟩
  · injection e with e1 e2 e3
    subst e1; subst e3; subst h0
    exact ⟨hlen, hx, Nat.le_refl _, Nat.zero_le _, fun h => by omega⟩
  · injection e with e1 e2 e3
    subst e1; subst e3
    refine ⟨hlen, hx, hnc, hm, fun _ => ⟨g, 0, rfl, ?_, fun j hj => ?_⟩⟩
    · exact Blk.lt (t := E) (cs := cur) hg
    · rw [Nat.zero_add, cell_of_row w g j cur E (0, 0) hg]
      have e1 : cur[j]? = (cur.toList.take (n * 1))[j]? := by
        rw [List.getElem?_take_of_lt (by omega), Array.getElem?_toList]
      rw [e1, htk, map_getD l j (by omega)]; rfl
theorem cell_new (w : World) (v : Value) (t : TypeId) : ∀ j u, [v][j]? = some u → (w.alloc (.cells #[v] t)).cell? ((⟨w.heap.size, 0, none⟩ : Addr).add j) = some u := by
  intro j u h
  cases j with
  | zero =>
    simp at h; subst h
    exact World.cell?_alloc_at _ _ _ _ rfl
  | succ j => simp at h
theorem own_below {w wr w1 : World} {B : Nat} {E : TypeId} {v : Value} {n : Nat} {xs : List Value} {o : Obj} (hb : Below B w wr) (hB : B ≤ wr.heap.size) (hown : wr.ownsRow B E 1 v n xs) (hg : (wr.alloc o).grownBy w1 v.ownBlock) : Below B w w1 :=
  (hb.alloc hB o).grown hg (by simp; omega) (fun j hj => by have := (hown.lt j hj).1; omega)
def LPost (l : List Nat) (w : World) (e : Ending) (w' : World) : Prop := ∃ v, e = .returned v ∧ w'.ownsRow w.heap.size 76 1 v l.length (l.map U8) ∧ Below w.heap.size w w'
theorem take_more (l : List Nat) (k : Nat) (h : k < l.length) : l.take (k + 1) = l.take k ++ [l.getD k 0] := by
  rw [List.take_succ_eq_append_getElem h, List.getD_eq_getElem?_getD, List.getElem?_eq_getElem h]; rfl
theorem info76 : (Try.prog.info? 76).map (fun i => (i.zero, i.size, i.bytes)) = some (some (.int .u8 0), 1, 1) := by kernel_rfl
set_option maxHeartbeats 4000000 in
set_option maxRecDepth 100000 in
theorem To9_ok (A : Option Addr) (n cap : Nat) (l : List Nat) (hn : n ≤ 1000) (w : World) (hb : Byt w A n cap l) :
    Calls Try.prog 18 #[.slice A n cap] w (LPost l w) := by
  obtain ⟨i0, hi, hz0, hz1, hz2⟩ := info_parts info76
  obtain ⟨hl, hx, hcap, hcm, hc⟩ := hb
  subst hl
  have HC := Lib.hid hc
  have HX := Lib.hid hx
  have hn9 : l.length ≤ 1000 := hn
  clear hc hx
  go_enter Try.func18, Try.ntmps18
  go_wp2_with fail
  go_loopw [3, 4] (fun v3 v4 wr => ∃ k : Nat, k ≤ l.length ∧ v4 = .int .i64 k ∧ Hid (wr.ownsRow w.heap.size 76 1 v3 k ((l.take k).map U8)) ∧ Hid (Below w.heap.size w wr)) (fun _ v4 _ => l.length - (intOf v4).toNat)
  case atStart => exact ⟨0, by omega, rfl, Lib.hid (World.ownsRow_nil _ _ _ _), Lib.hid (Below.refl _ _)⟩
  case round =>
    obtain ⟨k, hk, rfl, HO, HB⟩ := hrel
    by_cases hlt : k < l.length
    · obtain ⟨b, off, rfl, hbl, hcell⟩ := HC.out (by omega)
      have h0 := hcell k hlt
      rw [← HB.out.cell (p := ⟨b, off + k, none⟩) hbl] at h0
      have HT := Lib.hid (take_more l k hlt)
      have hy : l.getD k 0 < 256 := by
        rw [List.getD_eq_getElem?_getD, List.getElem?_eq_getElem hlt]; exact HX.out _ (List.getElem_mem hlt)
      clear hcell
      generalize l.getD k 0 = y at h0 HT hy
      go_wp2_with (at_builtin; refine wpList_append_own _ rfl (.tmp 11) (.tmp 16) 40 rfl w.heap.size 76 i0 _ 1 1 Try.underlying40 hi hz0 hz1 hz2 rfl (by decide) _ k _ rfl (HO.out.alloc _) ⟨wr.heap.size, 0, none⟩ 1 1 [U8 y] rfl rfl (cell_new _ _ _) ?c2 ?c3 ?c4 ?c5 ?_)
      case c2 => intro u hu; simp at hu; subst hu; rfl
      case c3 => unfold maxLen; omega
      case c4 => omega
      case c5 => have := HB.out.size; simp; omega
      intro v1 w3 hown1 hg1 _
      have HB3 : Hid (Below w.heap.size w w3) := Lib.hid (own_below HB.out HB.out.size HO.out hg1)
      have HO3 : Hid (w3.ownsRow w.heap.size 76 1 v1 (k + 1) ((l.take (k + 1)).map U8)) := Lib.hid (by
        rw [HT.out, List.map_append, List.map_take]; exact hown1)
      clear hown1 hg1
      go_wp2
      go_roundw
      case rel => exact ⟨k + 1, by omega, by go_num, HO3, HB3⟩
      case measure => simp [intOf]; omega
    · obtain rfl : k = l.length := by omega
      go_wp2
      go_ret
      rw [List.take_of_length_le (Nat.le_refl _)] at HO
      exact ⟨_, rfl, HO.out, HB.out⟩
/-- what To of bodies answers -/
def BdP (l : List Nat) (m : Nat) (X : Nat → In) (w : World) (e : Ending) (w' : World) : Prop := Below w.heap.size w w' ∧ ∃ B b B2 b2 S, e = .returned (.agg #[.slice B l.length b, .slice B2 m b2]) ∧ w'.ownsRow w.heap.size 76 1 (.slice B l.length b) l.length (l.map U8) ∧ Made w' w.heap.size (.slice B2 m b2) m X S
theorem results25 : Try.f25.results = #[.cell 2 67] := by kernel_rfl
theorem own_blk_ne {B E size E2 g : Nat} {w : World} {v : Value} {n : Nat} {xs : List Value} {cs : Array Value} (h : w.ownsRow B E size v n xs) (hb : Blk w g E2 cs) (hne : E ≠ E2) (k : Nat) (hk : v.ownBlock = some k) : k ≠ g := by
  obtain ⟨c2, hc⟩ := own_ty h hk
  exact hc.ne_ hb hne
set_option maxHeartbeats 4000000 in
set_option maxRecDepth 100000 in
theorem To12_ok (A A2 : Option Addr) (n c m c2 : Nat) (l : List Nat) (X : Nat → In) (w : World) (hn : n ≤ 1000) (hm : m ≤ 1000) (hl : ∀ i, i < m → (X i).l.length ≤ 1000) (hb : Byt w A n c l) (hr : IRow w A2 m c2 X) :
    Calls Try.prog 25 #[.agg #[.slice A n c, .slice A2 m c2]] w (BdP l m X w) := by
  have hb0 : Below w.heap.size w (w.alloc (.cells #[.slice A n c, .slice A2 m c2] 61)) := (Below.refl _ _).alloc (Nat.le_refl _) _
  have hP := Blk.new w 61 #[.slice A n c, .slice A2 m c2]
  obtain ⟨W0, hW0⟩ : ∃ W, W = (w.alloc (.cells #[.slice A n c, .slice A2 m c2] 61)).alloc (.cells #[.slice none 0 0, .slice none 0 0] 67) := ⟨_, rfl⟩
  have hbW : Below w.heap.size w W0 := by rw [hW0]; exact hb0.alloc hb0.size _
  have hP0 : Blk W0 w.heap.size 61 #[.slice A n c, .slice A2 m c2] := by rw [hW0]; exact hP.alloc _
  have hR0 : Blk W0 (w.heap.size + 1) 67 #[.slice none 0 0, .slice none 0 0] := by
    rw [hW0]
    have := Blk.new (w.alloc (.cells #[.slice A n c, .slice A2 m c2] 61)) 67 #[.slice none 0 0, .slice none 0 0]
    rw [World.size_alloc] at this
    exact this
  have hbD : Below w.heap.size w W0.drew := below_drew hbW
  have hP1 : Blk W0.drew w.heap.size 61 _ := hP0
  have hR1 : Blk W0.drew (w.heap.size + 1) 67 _ := hR0
  have k0 : (fun W : World => W.cell? ⟨w.heap.size, 0, none⟩ = some (.slice A n c) ∧ W.cell? ⟨w.heap.size, 1, none⟩ = some (.slice A2 m c2)) W0.drew := ⟨hP1.cell 0, hP1.cell 1⟩
  have HK := Lib.hid k0
  have HT9 := Lib.hid (To9_ok A n c l hn W0.drew (hb.below hbD))
  have HTL : Hid (∀ W, Below w.heap.size w W → Calls Try.prog 48 #[.slice A2 m c2] W (LsP m X W)) := Lib.hid (fun W hW => List_ok A2 m c2 X W hm hl (hr.below hW))
  have HBD := Lib.hid hbD
  have HP1 := Lib.hid hP1
  have HR1 := Lib.hid hR1
  have HW0 := Lib.hid hW0
  have hnl : n = l.length := hb.1.symm
  clear hb0 hP hbW hP0 hR0 hbD hP1 hR1 k0 hW0 hb hr hl
  subst hnl
  go_enter Try.func25, Try.ntmps25
  go_upto_region 1 with fail
  rw [← HW0.out]
  refine wp_region_held_drew (S := (fun W : World => W.cell? ⟨w.heap.size, 0, none⟩ = some (.slice A l.length c) ∧ W.cell? ⟨w.heap.size, 1, none⟩ = some (.slice A2 m c2))) (by kernel_rfl) HK.out (fun hHeld => ?_)
  refine wpAnyH_take (i := 0) (oi := ?oi_1) (v := ?_) ?hi_1 (by kernel_rfl) ?hf_1 (by kernel_rfl) ?hQ_1 ?hy_1 (by assumption) ?_
  case hi_1 => simp only [List.getElem?_toArray, List.getElem?_cons_zero, List.getElem?_cons_succ]; rfl
  case hf_1 => kernel_rfl
  case hQ_1 => exact fun _ _ _ h => h
  case hy_1 =>
    refine Or.inl ⟨by rfl, ?_⟩
    intro W hSw
    obtain ⟨q0, q1⟩ := hSw
    go_simp
    try with_reducible rfl
  try simp only [Act.put, List.setIfInBounds_toArray, List.set_cons_zero, List.set_cons_succ]
  refine wpAnyH_take (i := 1) (oi := ?oi_2) (v := ?_) ?hi_2 (by kernel_rfl) ?hf_2 (by kernel_rfl) ?hQ_2 ?hy_2 (by assumption) ?_
  case hi_2 => simp only [List.getElem?_toArray, List.getElem?_cons_zero, List.getElem?_cons_succ]; rfl
  case hf_2 => kernel_rfl
  case hQ_2 => exact fun _ _ _ h => h
  case hy_2 =>
    refine Or.inl ⟨by rfl, ?_⟩
    intro W hSw
    obtain ⟨q0, q1⟩ := hSw
    go_simp
    try with_reducible rfl
  try simp only [Act.put, List.setIfInBounds_toArray, List.set_cons_zero, List.set_cons_succ]
  refine wpAnyH_take (i := 3) (oi := ?oi_3) (v := ?_) ?hi_3 (by kernel_rfl) ?hf_3 (by kernel_rfl) ?hQ_3 ?hy_3 (by assumption) ?_
  case hi_3 => simp only [List.getElem?_toArray, List.getElem?_cons_zero, List.getElem?_cons_succ]; rfl
  case hf_3 => kernel_rfl
  case hQ_3 => exact fun _ _ _ h => h
  case hy_3 =>
    refine Or.inl ⟨by rfl, ?_⟩
    intro W hSw
    obtain ⟨q0, q1⟩ := hSw
    go_simp
    try with_reducible rfl
  try simp only [Act.put, List.setIfInBounds_toArray, List.set_cons_zero, List.set_cons_succ]
  refine wpAnyH_take (i := 4) (oi := ?oi_4) (v := ?_) ?hi_4 (by kernel_rfl) ?hf_4 (by kernel_rfl) ?hQ_4 ?hy_4 (by assumption) ?_
  case hi_4 => simp only [List.getElem?_toArray, List.getElem?_cons_zero, List.getElem?_cons_succ]; rfl
  case hf_4 => kernel_rfl
  case hQ_4 => exact fun _ _ _ h => h
  case hy_4 =>
    refine Or.inl ⟨by rfl, ?_⟩
    intro W hSw
    obtain ⟨q0, q1⟩ := hSw
    go_simp
    try with_reducible rfl
  try simp only [Act.put, List.setIfInBounds_toArray, List.set_cons_zero, List.set_cons_succ]
  refine wpAnyH_ready (rs := [2]) (by kernel_rfl) (by simp) ?_
  refine AllReadyH.cons (o := ?oi_5) ?hi_5 (fun K hK => ?_) AllReadyH.nil
  case hi_5 => simp only [List.getElem?_toArray, List.getElem?_cons_zero, List.getElem?_cons_succ]; rfl
  go_simp
  (go_at_call 18
   with_reducible refine HT9.out.mono ?_
   rintro e w1 ⟨v1, rfl, ho1, hb1⟩
   obtain ⟨B, b, rfl⟩ := own_slice ho1
   have hk1 : (fun W : World => W.cell? ⟨w.heap.size, 0, none⟩ = some (.slice A l.length c) ∧ W.cell? ⟨w.heap.size, 1, none⟩ = some (.slice A2 m c2)) w1 := ⟨(HP1.out.below hb1 HP1.out.lt).cell 0, (HP1.out.below hb1 HP1.out.lt).cell 1⟩
   have HB1 : Hid (Below w.heap.size w w1) := Lib.hid (HBD.out.trans (hb1.mono HBD.out.size))
   have HO1 := Lib.hid (own_base ho1 HBD.out.size)
   have HP2 := Lib.hid (HP1.out.below hb1 HP1.out.lt)
   have HR2 := Lib.hid (HR1.out.below hb1 HR1.out.lt)
   have HK1 := Lib.hid hk1
   clear ho1 hb1 hk1)
  refine hK.out _ _ HK1.out (fun hHeld => ?_)
  clear hK K
  try simp only [Act.put, List.setIfInBounds_toArray, List.set_cons_zero, List.set_cons_succ]
  refine wpAnyH_ready (rs := [5]) (by kernel_rfl) (by simp) ?_
  refine AllReadyH.cons (o := ?oi_6) ?hi_6 (fun K hK => ?_) AllReadyH.nil
  case hi_6 => simp only [List.getElem?_toArray, List.getElem?_cons_zero, List.getElem?_cons_succ]; rfl
  go_simp
  (go_at_call 48
   with_reducible refine (HTL.out _ HB1.out).mono ?_
   rintro e w2 ⟨hb2, v2, S2, rfl, hm2⟩
   obtain ⟨B2, b2, rfl⟩ := own_slice hm2.1
   have hk2 : (fun W : World => W.cell? ⟨w.heap.size, 0, none⟩ = some (.slice A l.length c) ∧ W.cell? ⟨w.heap.size, 1, none⟩ = some (.slice A2 m c2)) w2 := ⟨(HP2.out.below hb2 HP2.out.lt).cell 0, (HP2.out.below hb2 HP2.out.lt).cell 1⟩
   have HB2 : Hid (Below w.heap.size w w2) := Lib.hid (HB1.out.trans (hb2.mono HB1.out.size))
   have HO2 := Lib.hid (own_kept HO1.out hb2)
   have HM2 : Hid (Made w2 w.heap.size (.slice B2 m b2) m X S2) := Lib.hid ⟨own_base hm2.1 HB1.out.size, fun i hi => own_base (hm2.2 i hi) HB1.out.size⟩
   have HR3 := Lib.hid (HR2.out.below hb2 HR2.out.lt)
   have HP3 := Lib.hid (HP2.out.below hb2 HP2.out.lt)
   have HK2 := Lib.hid hk2
   have hk3 : (fun W : World => W.cell? ⟨w.heap.size, 0, none⟩ = some (.slice A l.length c) ∧ W.cell? ⟨w.heap.size, 1, none⟩ = some (.slice A2 m c2)) (w2.setRow (w.heap.size + 1) #[.slice B l.length b, .slice B2 m b2]) := by
     have hP4 : Blk (w2.setRow (w.heap.size + 1) #[.slice B l.length b, .slice B2 m b2]) w.heap.size 61 _ := (setRow_other w2 (w.heap.size + 1) w.heap.size _ (by omega)).trans HP3.out
     exact ⟨hP4.cell 0, hP4.cell 1⟩
   have HK3 := Lib.hid hk3
   clear hb2 hm2 hk2 hk3)
  refine hK.out _ _ HK2.out (fun hHeld => ?_)
  clear hK K
  try simp only [Act.put, List.setIfInBounds_toArray, List.set_cons_zero, List.set_cons_succ]
  refine wpAnyH_take (i := 6) (oi := ?oi_7) (v := ?_) ?hi_7 (by kernel_rfl) ?hf_7 (by kernel_rfl) ?hQ_7 ?hy_7 (by assumption) ?_
  case hi_7 => simp only [List.getElem?_toArray, List.getElem?_cons_zero, List.getElem?_cons_succ]; rfl
  case hf_7 => kernel_rfl
  case hQ_7 => exact fun _ _ _ h => h
  case hy_7 =>
    refine Or.inl ⟨by rfl, ?_⟩
    intro W hSw
    obtain ⟨q0, q1⟩ := hSw
    go_simp
    try with_reducible rfl
  try simp only [Act.put, List.setIfInBounds_toArray, List.set_cons_zero, List.set_cons_succ]
  refine wpAnyH_ready (rs := [7]) (by kernel_rfl) (by simp) ?_
  refine AllReadyH.cons (o := ?oi_8) ?hi_8 (fun K hK => ?_) AllReadyH.nil
  case hi_8 => simp only [List.getElem?_toArray, List.getElem?_cons_zero, List.getElem?_cons_succ]; rfl
  refine step_store_row rfl 67 (.tmp 2) (.tmp 9) rfl (w.heap.size + 1) #[.slice B l.length b, .slice B2 m b2] rfl rfl 67 _ HR3.out (by kernel_rfl) rfl (by simp [Value.oneCell']) ?_
  refine hK.out _ _ HK3.out (fun hHeld => ?_)
  clear hK K
  try simp only [Act.put, List.setIfInBounds_toArray, List.set_cons_zero, List.set_cons_succ]
  refine wpAnyH_done (by kernel_rfl) ?_ _
  clear hHeld
  go_wp2
  refine bodyPost_ret (v := .agg #[.slice B l.length b, .slice B2 m b2]) (results_cell_row results25 _ _ (w.heap.size + 1) 67 _ (0, 0) _ rfl (setRow_heap w2 (w.heap.size + 1) _ _ 67 (0, 0) HR3.out) Try.underlying67 rfl (by kernel_rfl)) rfl ?_
  have hf := fr_setRow w2 (w.heap.size + 1) #[.slice B l.length b, .slice B2 m b2]
  refine ⟨below_setRow HB2.out (by omega) _, B, b, B2, b2, S2, rfl, own_fr HO2.out hf (fun k hk e => own_blk_ne HO2.out HR3.out (by decide) k hk e), HM2.out.fr hf (fun k cs e => ⟨fun hc => ?_, fun hc => ?_⟩)⟩
  · subst e; exact hc.ne_ HR3.out (by decide) rfl
  · subst e; exact hc.ne_ HR3.out (by decide) rfl
end Go.Proofs.Ytackompihengfaa
