/-
  space.Memory.write.
-/
import Derived.Test.YtlnffcledpccjaaRf
import Derived.OwnWalk
import Derived.WalkKit
import Derived.ProofKit
import Derived.OpenShut
import Derived.ShutString
import Derived.ChangeOld
import Derived.Below
namespace Go.Proofs.Ytlnffcledpccjaa
set_option linter.unusedVariables false
set_option linter.unusedSimpArgs false
open Go.RowKit Go.Shelf
/-- between two rounds of a writing -/
structure WI (w0 w : World) (A : Pa) (bb rm gm nf sz cap : Nat) (C : Nat × Nat → List Nat) (k o : Nat) (X : Nat → Prop) (num M : Nat) (mc : Array Value) (place n cp : Nat) (B : Option Addr) (l : List Nat) (fr : Nat) (W : World) : Prop where
  ex : ∃ c, cnt_ place n sz fr c ∧ S1 w0 A bb rm gm nf sz cap (wrm C num sz place l fr) (k + c) (o + 3 * c) (fun q => X q ∨ (w.heap.size ≤ q ∧ q < w.heap.size + 8 ∧ q < W.heap.size)) W
  le : fr ≤ n
  b3 : Blk W w.heap.size 48 #[.pointer (some ⟨M, 0, none⟩)]
  b5 : Blk W (w.heap.size + 1) 34 #[.slice B n cp]
  b6 : Blk W (w.heap.size + 2) 25 #[.int .i64 0]
  bm : Blk W (w.heap.size + 3) 48 #[.pointer (some ⟨M, 0, none⟩)]
  bn : Blk W (w.heap.size + 5) 3 #[.int .i64 n]
  mm : Blk W M 117 mc
  by_ : Byt W B n cp l
  kx : KX w0 X w W
  sz_ : w.heap.size + 6 ≤ W.heap.size
section
variable {w0 w : World} {A : Pa} {bb rm gm nf sz cap : Nat} {C : Nat × Nat → List Nat} {k o : Nat} {X : Nat → Prop} {num M : Nat} {mc : Array Value} {place n cp : Nat} {B : Option Addr} {l : List Nat} {fr : Nat} {W W' : World}
theorem byt_fr {S : Nat → Prop} (hb : Byt W B n cp l) (hf : Fr S W W') (hB : ∀ g, B.map (·.block) = some g → 0 < n → ¬ S g) : Byt W' B n cp l := by
  refine ⟨hb.1, hb.2.1, hb.2.2.1, hb.2.2.2.1, fun h0 => ?_⟩
  obtain ⟨g, off, rfl, hlt, hc⟩ := hb.2.2.2.2 h0
  refine ⟨g, off, rfl, Nat.lt_of_lt_of_le hlt hf.size, fun j hj => ?_⟩
  rw [← hc j hj]
  unfold World.cell?
  rw [hf.block g hlt (hB g rfl h0)]
theorem WI.st (h : WI w0 w A bb rm gm nf sz cap C k o X num M mc place n cp B l fr W) (hM : M < w.heap.size) (hBw : ∀ g, B.map (·.block) = some g → 0 < n → g < w.heap.size) (hf : Fr (fun q => q = w.heap.size + 4 ∨ q = w.heap.size + 6 ∨ q = w.heap.size + 7) W W') : WI w0 w A bb rm gm nf sz cap C k o X num M mc place n cp B l fr W' := by
  obtain ⟨c, hc, hS⟩ := h.ex
  have hsz := h.sz_
  have hfs := hf.size
  refine ⟨⟨c, hc, hS.ext hf (fun q hq => ?_) (fun q hq => ?_)⟩, h.le, h.b3.fr hf (by omega), h.b5.fr hf (by omega), h.b6.fr hf (by omega), h.bm.fr hf (by omega), h.bn.fr hf (by omega), h.mm.fr hf (by omega), byt_fr h.by_ hf (fun g e h0 => by have := hBw g e h0; omega), Fr.trans_new h.kx hf (fun q hq => .inr (by omega)), by omega⟩
  · rcases Nat.lt_or_ge q W.heap.size with p | p
    · exact .inl (.inr ⟨by omega, by omega, p⟩)
    · exact .inr p
  · rcases hq with q1 | ⟨q1, q2, q3⟩
    · exact .inl (.inl q1)
    · rcases Nat.lt_or_ge q W.heap.size with p | p
      · exact .inl (.inr ⟨q1, q2, p⟩)
      · exact .inr ⟨p, q3⟩
end
def MwP (w0 : World) (A : Pa) (bb rm gm nf sz cap : Nat) (C : Nat × Nat → List Nat) (k o : Nat) (X : Nat → Prop) (w : World) (e : Ending) (w' : World) : Prop :=
  e = .returned (.int .i64 0) ∧ S1 w0 A bb rm gm nf sz cap C k o X w' ∧ KX w0 X w w'
set_option maxHeartbeats 4000000 in
set_option maxRecDepth 100000 in
theorem mwrite_ok {w0 w : World} {A : Pa} {bb rm gm nf sz cap k o : Nat} {C : Nat × Nat → List Nat} {X : Nat → Prop} (h : S1 w0 A bb rm gm nf sz cap C k o X w) (M num pages most capped place n cp : Nat) (wide : Bool) (B : Option Addr) (l : List Nat) (hM : Blk w M 117 (mmC A.p num pages most capped wide)) (hX : X M) (hB : Byt w B n cp l) (hBx : ∀ g, B.map (·.block) = some g → 0 < n → (X g ∨ g < w0.heap.size)) (hsz : 16 ≤ sz) (hsz2 : sz ≤ 1024) (hnum : num ≤ 9223372036854775807) (hp : place + n ≤ 4611686018427387904) (hn : n ≤ 1048576) (ho : o + 3 * (n / sz + 2) < 900000) (hk : k + (n / sz + 2) ≤ cap) :
    Calls Try.prog 51 #[.pointer (some ⟨M, 0, none⟩), .int .u64 place, .slice B n cp] w (MwP w0 A bb rm gm nf sz cap (wrm C num sz place l n) (k + (n / sz + 2)) (o + 3 * (n / sz + 2)) X w) := by
  have H := Lib.hid h
  have HM := Lib.hid hM
  have hcp9 : cp ≤ 9223372036854775807 := by have := hB.2.2.2.1; unfold maxLen at this; omega
  have hncp : n ≤ cp := hB.2.2.1
  have HB := Lib.hid hB
  have HBX0 := Lib.hid hBx
  have HCl0 := Lib.hid (show ∀ x, (C x).length = sz from fun x => by
    obtain ⟨d, ad, W_, g1, g2, g3, g4, _⟩ := h.ex
    rw [(g1.pi.len x).1, g4])
  clear h hM hB hBx
  refine callsIn_wide.1 (callsIn_of_wp_marks (n := 3) Try.func51 rfl trivial (wpIn_wide.2 ?_))
  simp only [Try.ntmps51, List.size_toArray, List.length_cons, List.length_nil, Nat.reduceAdd, Nat.reduceSub, Array.replicate_succ, Array.replicate_zero, List.push_toArray, List.append_toArray, List.nil_append, List.cons_append]
  go_wp2_with (go_at_call 55; refine (parts_ok M place n _ (by omega) (by omega)).mono ?_; rintro e w3 ⟨rfl, hw3⟩; have HW3 := Lib.hid hw3; clear hw3)
  have hMw : M < w.heap.size := HM.out.lt
  have hw0 : w0.heap.size ≤ w.heap.size := H.out.lt
  have hBw : ∀ g, B.map (·.block) = some g → 0 < n → g < w.heap.size := fun g e h0 => by
    obtain ⟨g', off, e', hlt, _⟩ := HB.out.2.2.2.2 h0
    rw [e'] at e
    simp at e
    omega
  have hw3 := HW3.out
  obtain ⟨w1, hw1⟩ : ∃ w1, w1 = w.alloc (Obj.cells #[.pointer (some ⟨M, 0, none⟩)] 48) := ⟨_, rfl⟩
  have hs1 : w1.heap.size = w.heap.size + 1 := by rw [hw1, World.size_alloc]
  have hb31 : Blk w1 w.heap.size 48 #[.pointer (some ⟨M, 0, none⟩)] := by rw [hw1]; exact Blk.new w 48 _
  have hf1 : Fr (fun _ => False) w w1 := by rw [hw1]; exact (Fr.refl _ w).alloc _
  rw [← hw1] at hw3
  obtain ⟨w2, hw2⟩ : ∃ w2, w2 = w1.alloc (Obj.cells #[.slice B n cp] 34) := ⟨_, rfl⟩
  have hs2 : w2.heap.size = w.heap.size + 2 := by rw [hw2, World.size_alloc, hs1]
  have hb52 : Blk w2 (w.heap.size + 1) 34 #[.slice B n cp] := by rw [hw2, ← hs1]; exact Blk.new w1 34 _
  have hf2 : Fr (fun _ => False) w1 w2 := by rw [hw2]; exact (Fr.refl _ w1).alloc _
  rw [← hw2] at hw3
  obtain ⟨wa, hwa⟩ : ∃ wa, wa = w2.alloc (Obj.cells #[.int .i64 0] 25) := ⟨_, rfl⟩
  have hsa : wa.heap.size = w.heap.size + 3 := by rw [hwa, World.size_alloc, hs2]
  have hb6a : Blk wa (w.heap.size + 2) 25 #[.int .i64 0] := by rw [hwa, ← hs2]; exact Blk.new w2 25 _
  have hfa : Fr (fun _ => False) w2 wa := by rw [hwa]; exact (Fr.refl _ w2).alloc _
  rw [← hwa] at hw3
  obtain ⟨wb, hwb⟩ : ∃ wb, wb = wa.alloc (.cells #[.pointer (some ⟨M, 0, none⟩)] 48) := ⟨_, rfl⟩
  rw [← hwb] at hw3
  have hbmb : Blk wb (w.heap.size + 3) 48 #[.pointer (some ⟨M, 0, none⟩)] := by rw [hwb, ← hsa]; exact Blk.new wa 48 _
  have hsb : wb.heap.size = w.heap.size + 4 := by rw [hwb, World.size_alloc, hsa]
  have hfb : Fr (fun _ => False) wa wb := by rw [hwb]; exact (Fr.refl _ wa).alloc _
  obtain ⟨wc, hwc⟩ : ∃ wc, wc = wb.alloc (.cells #[.int .u64 place] 56) := ⟨_, rfl⟩
  rw [← hwc] at hw3
  have hbpc : Blk wc (w.heap.size + 4) 56 #[.int .u64 place] := by rw [hwc, ← hsb]; exact Blk.new wb 56 _
  have hsc : wc.heap.size = w.heap.size + 5 := by rw [hwc, World.size_alloc, hsb]
  have hfc : Fr (fun _ => False) wb wc := by rw [hwc]; exact (Fr.refl _ wb).alloc _
  have hbn3 : Blk w3 (w.heap.size + 5) 3 #[.int .i64 n] := by rw [hw3, ← hsc]; exact Blk.new wc 3 _
  have hs3 : w3.heap.size = w.heap.size + 6 := by rw [hw3, World.size_alloc, hsc]
  have hf3 : Fr (fun _ => False) wc w3 := by rw [hw3]; exact (Fr.refl _ wc).alloc _
  have hg3 : Fr (fun _ => False) wa w3 := (hfb.trans hfc).trans hf3
  have hg2 := hfa.trans hg3
  have hg1 := hf2.trans hg2
  have hfw := hf1.trans hg1
  have hWI : WI w0 w A bb rm gm nf sz cap C k o X num M (mmC A.p num pages most capped wide) place n cp B l 0 w3 :=
    ⟨⟨0, cnt_.nil _ _ _, (H.out.con (wrm_zero HCl0.out).symm).ext hfw (fun q hq => hq.elim) (fun q hq => by
      rcases hq with q1 | ⟨q1, q2, q3⟩
      · exact .inl q1
      · exact .inr ⟨q1, q3⟩)⟩, Nat.zero_le _, hb31.fr hg1 (fun q => q), hb52.fr hg2 (fun q => q), hb6a.fr hg3 (fun q => q), (hbmb.fr hfc (fun q => q)).fr hf3 (fun q => q), hbn3, HM.out.fr hfw (fun q => q), byt_fr HB.out hfw (fun _ _ _ q => q), (KX.refl w0 X w).new hfw, by omega⟩
  have hbp3 : Blk w3 (w.heap.size + 4) 56 #[.int .u64 place] := hbpc.fr hf3 (fun q => q)
  have HWI := Lib.hid hWI
  have HBP := Lib.hid hbp3
  have hW3s := hs3
  clear hWI hbp3 hbn3 hbpc hbmb hb6a hb52 hb31 hfw hg1 hg2 hg3 hf3 hfc hfb hfa hf2 hf1 hw3 hwc hwb hwa hw2 hw1 HW3 hs1 hs2 hsa hsb hsc hs3
  refine wpIn_wide.1 (parts_range (m := 1) 3 (w.heap.size + 3) (w.heap.size + 5) (w.heap.size + 4) M A.p sz n place rfl rfl rfl hsz hsz2 (by omega) hp (by omega)
    (WI w0 w A bb rm gm nf sz cap C k o X num M (mmC A.p num pages most capped wide) place n cp B l)
    ?act
    (fun fr W W' hI hf => hI.st hMw hBw (hf.more (fun q hq => by omega))) ?hc HWI.out HBP.out ?assign ?body ?done)
  case act => exact fun fr bx => { tmps := #[.pointer (some ⟨M, 0, none⟩), .int .u64 place, .slice B n cp, .pointer (some ⟨w.heap.size, 0, none⟩), undef, .pointer (some ⟨w.heap.size + 1, 0, none⟩), .pointer (some ⟨w.heap.size + 1 + 1, 0, none⟩), .pointer (some ⟨bx, 0, none⟩), undef, .pointer (some ⟨M, 0, none⟩), .int .u64 place, .slice B n cp, .int .i64 n, .func (.func 73) #[] #[.pointer (some ⟨w.heap.size + 1 + 1 + 1, 0, none⟩), .pointer (some ⟨w.heap.size + 1 + 1 + 1 + 2, 0, none⟩), .pointer (some ⟨w.heap.size + 1 + 1 + 1 + 1, 0, none⟩)], prt place n sz fr, undef, undef, undef, undef, undef, undef, undef, undef, undef, undef, undef, undef, undef, undef, undef, undef, undef, undef, undef, undef, undef, undef], defers := [] }
  case hc =>
    intro fr W hI
    obtain ⟨c, hc, hS⟩ := hI.ex
    obtain ⟨d, ad, W_, h1, h2, h3, h4, _⟩ := hS.ex
    have hps := PSize_ok h1.lay
    rw [h4] at hps
    exact ⟨hI.bm.cell 0, hI.mm.cell 0, hI.bn.cell 0, hps⟩
  case assign =>
    intro fr W K hI hK
    refine region_in_list (ndf_of (by kernel_rfl)) (by rintro ⟨_, _, h⟩; exact h) ?_
    have hK1 := hK (W.alloc (Obj.cells (prtC place n sz fr) 130)) ((Fr.refl _ W).alloc _) (Blk.new W 130 _) (World.size_alloc _ _)
    unfold prtC prt at hK1
    unfold prt
    clear hK
    generalize (place + fr) / sz = q1 at hK1 ⊢
    generalize (place + fr) % sz = q2 at hK1 ⊢
    generalize nxt place n sz fr = q3 at hK1 ⊢
    go_wp2
    exact hK1
  case body =>
    intro fr bx W0 W hfr hI hbx hle hf hsW hBx
    obtain ⟨c, hc, hS⟩ := hI.ex
    have hI' := hI.st hMw hBw (hf.more (fun q hq => by omega))
    have hSW : S1 w0 A bb rm gm nf sz cap (wrm C num sz place l fr) (k + c) (o + 3 * c) (fun q => (X q ∨ (w.heap.size ≤ q ∧ q < w.heap.size + 8 ∧ q < W0.heap.size)) ∨ q = bx) W := hS.ext hf (fun q hq => .inl (.inr ⟨by omega, by omega, by omega⟩)) (fun q hq => by
      rcases hq with q1 | q1
      · exact .inl q1
      · exact .inr ⟨by omega, by omega⟩)
    have HBX := Lib.hid hbx
    clear hbx
    obtain ⟨gb, off, rfl, hgb, _⟩ := HB.out.2.2.2.2 (by omega)
    have x0 := (hI'.b3.drewN 1).cell 0
    have x1 := (hI'.mm.drewN 1).cell 0
    have x2 := (hI'.mm.drewN 1).cell 1
    have hBd := hBx.drewN 1
    have x3 := hBd.cell 0
    have x4 := hBd.cell 1
    have x5 := hBd.cell 2
    have x6 := hBd.cell 3
    have x7 := (hI'.b5.drewN 1).cell 0
    have HN := Lib.hid (nxt_lt (place := place) hfr (by omega : 0 < sz))
    have HCn := Lib.hid (hc.next hfr (by omega : 0 < sz))
    have HCc := Lib.hid hc.2.2
    have hcn := HCn.out.2.2
    have hll : l.length = n := HB.out.1
    have HWn := Lib.hid (wrm_next (C := C) (num := num) (place := place) (l := l) (fr := fr) (t := nxt place n sz fr) HCl0.out (by omega : 0 < sz) HN.out.1 (by rw [hll]; exact HN.out.2.1) HN.out.2.2)
    obtain ⟨t, ht⟩ : ∃ t, t = nxt place n sz fr := ⟨_, rfl⟩
    obtain ⟨q, hq⟩ : ∃ q, q = (place + fr) / sz := ⟨_, rfl⟩
    obtain ⟨r, hr⟩ : ∃ r, r = (place + fr) % sz := ⟨_, rfl⟩
    unfold prtC at x3 x4 x5 x6
    rw [← ht] at HN HCn HWn
    rw [← ht, ← hq, ← hr] at x3 x4 x5 x6
    rw [← hr] at HN
    rw [← hr, ← hq] at HWn
    have HT := Lib.hid ht
    have hqp : q ≤ 4611686018427387904 := by rw [hq]; have := Nat.div_le_self (place + fr) sz; omega
    obtain ⟨n1, n2, n3⟩ := HN.out
    have hcut : ∀ W, (Instr.slice 34 (.slice (some ⟨gb, off, none⟩) n cp) (some (.int .i64 (fr : Int))) (some (.int .i64 (t : Int))) none).run Try.prog W = .ok (.slice (some ⟨gb, off + fr, none⟩) (t - fr) (cp - fr)) W := fun W => by
      have := cut_run (some ⟨gb, off, none⟩) n cp fr t (t : Int) rfl (by omega) (by omega) W
      rw [this]
      unfold cutA
      rw [if_neg (by omega), Nat.mul_one, Option.map_some, addr_add]
    have hcb : Byt W (some ⟨gb, off + fr, none⟩) (t - fr) (cp - fr) ((l.drop fr).take (t - fr)) := by
      have := cut_byt (a := fr) (b := t) hI'.by_ (by omega) (by omega)
      unfold cutA at this
      rw [if_neg (by omega), Nat.mul_one, Option.map_some, addr_add] at this
      exact this
    have hwr := (S1.drew hSW).writeI (ai := num) (bi := q) (oi := r) (ni := ((t - fr : Nat) : Int)) num q r (t - fr) (cp - fr) gb (off + fr) ((l.drop fr).take (t - fr)) ⟨hnum, by show q ≤ _; omega⟩ (by omega) (by omega) (hcb.drewN 1) (by
      rcases HBX0.out gb rfl (by omega) with e | e
      · exact .inl (.inl (.inl e))
      · exact .inr e) (by omega) (by omega) HWn.out rfl rfl rfl rfl
    unfold WrP at hwr
    have HWr := Lib.hid hwr
    have HI' := Lib.hid hI'
    have z8 := hI'.sz_
    change w3.heap.size + 2 ≤ bx at hle
    clear hwr hI' hI hS hSW hBx hBd ht hq hr hc hf hcb
    refine wpIn_block ?_
    refine wpIn_seq ?_
    refine region_in_held (S := (fun W => W.cell? ⟨w.heap.size, 0, none⟩ = some (.pointer (some ⟨M, 0, none⟩)) ∧ W.cell? ⟨M, 0, none⟩ = some (.pointer (some ⟨A.p, 0, none⟩)) ∧ W.cell? ⟨M, 1, none⟩ = some (.int .i64 num) ∧ W.cell? ⟨bx, 0, none⟩ = some (.int .i64 q) ∧ W.cell? ⟨bx, 1, none⟩ = some (.int .i64 r) ∧ W.cell? ⟨bx, 2, none⟩ = some (.int .i64 fr) ∧ W.cell? ⟨bx, 3, none⟩ = some (.int .i64 t) ∧ W.cell? ⟨w.heap.size + 1, 0, none⟩ = some (.slice (some ⟨gb, off, none⟩) n cp))) (ndf_of (by kernel_rfl)) (by rintro ⟨_, _, h⟩; exact absurd h.1 (by intro h; cases h)) (by kernel_rfl) ⟨x0, x1, x2, x3, x4, x5, x6, x7⟩ (fun hHeld => ?_)
    refine wpAnyH_take (i := 0) (oi := ?oi_1) (v := ?_) ?hi_1 (by kernel_rfl) ?hf_1 (by kernel_rfl) ?hQ_1 ?hy_1 (by assumption) ?_
    case hi_1 => simp only [List.getElem?_toArray, List.getElem?_cons_zero, List.getElem?_cons_succ]; rfl
    case hf_1 => kernel_rfl
    case hQ_1 => exact fun _ _ _ h => h
    case hy_1 =>
      refine Or.inl ⟨by rfl, ?_⟩
      intro W hSw
      obtain ⟨q0, q1, q2, q3, q4, q5, q6, q7⟩ := hSw
      go_simp
      try with_reducible rfl
    try simp only [Act.put, List.setIfInBounds_toArray, List.set_cons_zero, List.set_cons_succ]
    refine wpAnyH_take (i := 1) (oi := ?oi_2) (v := ?_) ?hi_2 (by kernel_rfl) ?hf_2 (by kernel_rfl) ?hQ_2 ?hy_2 (by assumption) ?_
    case hi_2 => simp only [List.getElem?_toArray, List.getElem?_cons_zero, List.getElem?_cons_succ]; rfl
    case hf_2 => kernel_rfl
    case hQ_2 => exact fun _ _ _ h => h
    case hy_2 =>
      refine Or.inl ⟨by rfl, ?_⟩
      intro W hSw
      obtain ⟨q0, q1, q2, q3, q4, q5, q6, q7⟩ := hSw
      go_simp
      try with_reducible rfl
    try simp only [Act.put, List.setIfInBounds_toArray, List.set_cons_zero, List.set_cons_succ]
    refine wpAnyH_take (i := 2) (oi := ?oi_3) (v := ?_) ?hi_3 (by kernel_rfl) ?hf_3 (by kernel_rfl) ?hQ_3 ?hy_3 (by assumption) ?_
    case hi_3 => simp only [List.getElem?_toArray, List.getElem?_cons_zero, List.getElem?_cons_succ]; rfl
    case hf_3 => kernel_rfl
    case hQ_3 => exact fun _ _ _ h => h
    case hy_3 =>
      refine Or.inl ⟨by rfl, ?_⟩
      intro W hSw
      obtain ⟨q0, q1, q2, q3, q4, q5, q6, q7⟩ := hSw
      go_simp
      try with_reducible rfl
    try simp only [Act.put, List.setIfInBounds_toArray, List.set_cons_zero, List.set_cons_succ]
    refine wpAnyH_take (i := 3) (oi := ?oi_4) (v := ?_) ?hi_4 (by kernel_rfl) ?hf_4 (by kernel_rfl) ?hQ_4 ?hy_4 (by assumption) ?_
    case hi_4 => simp only [List.getElem?_toArray, List.getElem?_cons_zero, List.getElem?_cons_succ]; rfl
    case hf_4 => kernel_rfl
    case hQ_4 => exact fun _ _ _ h => h
    case hy_4 =>
      refine Or.inl ⟨by rfl, ?_⟩
      intro W hSw
      obtain ⟨q0, q1, q2, q3, q4, q5, q6, q7⟩ := hSw
      go_simp
      try with_reducible rfl
    try simp only [Act.put, List.setIfInBounds_toArray, List.set_cons_zero, List.set_cons_succ]
    refine wpAnyH_take (i := 4) (oi := ?oi_5) (v := ?_) ?hi_5 (by kernel_rfl) ?hf_5 (by kernel_rfl) ?hQ_5 ?hy_5 (by assumption) ?_
    case hi_5 => simp only [List.getElem?_toArray, List.getElem?_cons_zero, List.getElem?_cons_succ]; rfl
    case hf_5 => kernel_rfl
    case hQ_5 => exact fun _ _ _ h => h
    case hy_5 =>
      refine Or.inl ⟨by rfl, ?_⟩
      intro W hSw
      obtain ⟨q0, q1, q2, q3, q4, q5, q6, q7⟩ := hSw
      go_simp
      try with_reducible rfl
    try simp only [Act.put, List.setIfInBounds_toArray, List.set_cons_zero, List.set_cons_succ]
    refine wpAnyH_take (i := 5) (oi := ?oi_6) (v := ?_) ?hi_6 (by kernel_rfl) ?hf_6 (by kernel_rfl) ?hQ_6 ?hy_6 (by assumption) ?_
    case hi_6 => simp only [List.getElem?_toArray, List.getElem?_cons_zero, List.getElem?_cons_succ]; rfl
    case hf_6 => kernel_rfl
    case hQ_6 => exact fun _ _ _ h => h
    case hy_6 =>
      refine Or.inl ⟨by rfl, ?_⟩
      intro W hSw
      obtain ⟨q0, q1, q2, q3, q4, q5, q6, q7⟩ := hSw
      go_simp
      try with_reducible rfl
    try simp only [Act.put, List.setIfInBounds_toArray, List.set_cons_zero, List.set_cons_succ]
    refine wpAnyH_take (i := 6) (oi := ?oi_7) (v := ?_) ?hi_7 (by kernel_rfl) ?hf_7 (by kernel_rfl) ?hQ_7 ?hy_7 (by assumption) ?_
    case hi_7 => simp only [List.getElem?_toArray, List.getElem?_cons_zero, List.getElem?_cons_succ]; rfl
    case hf_7 => kernel_rfl
    case hQ_7 => exact fun _ _ _ h => h
    case hy_7 =>
      refine Or.inl ⟨by rfl, ?_⟩
      intro W hSw
      obtain ⟨q0, q1, q2, q3, q4, q5, q6, q7⟩ := hSw
      go_simp
      try with_reducible rfl
    try simp only [Act.put, List.setIfInBounds_toArray, List.set_cons_zero, List.set_cons_succ]
    refine wpAnyH_take (i := 7) (oi := ?oi_8) (v := ?_) ?hi_8 (by kernel_rfl) ?hf_8 (by kernel_rfl) ?hQ_8 ?hy_8 (by assumption) ?_
    case hi_8 => simp only [List.getElem?_toArray, List.getElem?_cons_zero, List.getElem?_cons_succ]; rfl
    case hf_8 => kernel_rfl
    case hQ_8 => exact fun _ _ _ h => h
    case hy_8 =>
      refine Or.inl ⟨by rfl, ?_⟩
      intro W hSw
      obtain ⟨q0, q1, q2, q3, q4, q5, q6, q7⟩ := hSw
      go_simp
      try with_reducible rfl
    try simp only [Act.put, List.setIfInBounds_toArray, List.set_cons_zero, List.set_cons_succ]
    refine wpAnyH_take (i := 8) (oi := ?oi_9) (v := ?_) ?hi_9 (by kernel_rfl) ?hf_9 (by kernel_rfl) ?hQ_9 ?hy_9 (by assumption) ?_
    case hi_9 => simp only [List.getElem?_toArray, List.getElem?_cons_zero, List.getElem?_cons_succ]; rfl
    case hf_9 => kernel_rfl
    case hQ_9 => exact fun _ _ _ h => h
    case hy_9 =>
      refine Or.inl ⟨by rfl, ?_⟩
      intro W hSw
      obtain ⟨q0, q1, q2, q3, q4, q5, q6, q7⟩ := hSw
      go_simp
      try with_reducible rfl
    try simp only [Act.put, List.setIfInBounds_toArray, List.set_cons_zero, List.set_cons_succ]
    refine wpAnyH_take (i := 9) (oi := ?oi_10) (v := ?_) ?hi_10 (by kernel_rfl) ?hf_10 (by kernel_rfl) ?hQ_10 ?hy_10 (by assumption) ?_
    case hi_10 => simp only [List.getElem?_toArray, List.getElem?_cons_zero, List.getElem?_cons_succ]; rfl
    case hf_10 => kernel_rfl
    case hQ_10 => exact fun _ _ _ h => h
    case hy_10 =>
      refine Or.inl ⟨by rfl, ?_⟩
      intro W hSw
      obtain ⟨q0, q1, q2, q3, q4, q5, q6, q7⟩ := hSw
      go_simp
      try with_reducible rfl
    try simp only [Act.put, List.setIfInBounds_toArray, List.set_cons_zero, List.set_cons_succ]
    refine wpAnyH_take (i := 10) (oi := ?oi_11) (v := ?_) ?hi_11 (by kernel_rfl) ?hf_11 (by kernel_rfl) ?hQ_11 ?hy_11 (by assumption) ?_
    case hi_11 => simp only [List.getElem?_toArray, List.getElem?_cons_zero, List.getElem?_cons_succ]; rfl
    case hf_11 => kernel_rfl
    case hQ_11 => exact fun _ _ _ h => h
    case hy_11 =>
      refine Or.inl ⟨by rfl, ?_⟩
      intro W hSw
      obtain ⟨q0, q1, q2, q3, q4, q5, q6, q7⟩ := hSw
      go_simp
      try with_reducible rfl
    try simp only [Act.put, List.setIfInBounds_toArray, List.set_cons_zero, List.set_cons_succ]
    refine wpAnyH_take (i := 11) (oi := ?oi_12) (v := ?_) ?hi_12 (by kernel_rfl) ?hf_12 (by kernel_rfl) ?hQ_12 ?hy_12 (by assumption) ?_
    case hi_12 => simp only [List.getElem?_toArray, List.getElem?_cons_zero, List.getElem?_cons_succ]; rfl
    case hf_12 => kernel_rfl
    case hQ_12 => exact fun _ _ _ h => h
    case hy_12 =>
      refine Or.inl ⟨by rfl, ?_⟩
      intro W hSw
      obtain ⟨q0, q1, q2, q3, q4, q5, q6, q7⟩ := hSw
      go_simp
      try with_reducible rfl
    try simp only [Act.put, List.setIfInBounds_toArray, List.set_cons_zero, List.set_cons_succ]
    refine wpAnyH_take (i := 12) (oi := ?oi_13) (v := ?_) ?hi_13 (by kernel_rfl) ?hf_13 (by kernel_rfl) ?hQ_13 ?hy_13 (by assumption) ?_
    case hi_13 => simp only [List.getElem?_toArray, List.getElem?_cons_zero, List.getElem?_cons_succ]; rfl
    case hf_13 => kernel_rfl
    case hQ_13 => exact fun _ _ _ h => h
    case hy_13 =>
      refine Or.inl ⟨by rfl, ?_⟩
      intro W hSw
      obtain ⟨q0, q1, q2, q3, q4, q5, q6, q7⟩ := hSw
      go_simp
      try with_reducible rfl
    try simp only [Act.put, List.setIfInBounds_toArray, List.set_cons_zero, List.set_cons_succ]
    refine wpAnyH_take (i := 13) (oi := ?oi_14) (v := ?_) ?hi_14 (by kernel_rfl) ?hf_14 (by kernel_rfl) ?hQ_14 ?hy_14 (by assumption) ?_
    case hi_14 => simp only [List.getElem?_toArray, List.getElem?_cons_zero, List.getElem?_cons_succ]; rfl
    case hf_14 => kernel_rfl
    case hQ_14 => exact fun _ _ _ h => h
    case hy_14 =>
      refine Or.inl ⟨by rfl, ?_⟩
      intro W hSw
      obtain ⟨q0, q1, q2, q3, q4, q5, q6, q7⟩ := hSw
      go_simp
      try with_reducible rfl
    try simp only [Act.put, List.setIfInBounds_toArray, List.set_cons_zero, List.set_cons_succ]
    refine wpAnyH_take (i := 14) (oi := ?oi_15) (v := ?_) ?hi_15 (by kernel_rfl) ?hf_15 (by kernel_rfl) ?hQ_15 ?hy_15 (by assumption) ?_
    case hi_15 => simp only [List.getElem?_toArray, List.getElem?_cons_zero, List.getElem?_cons_succ]; rfl
    case hf_15 => kernel_rfl
    case hQ_15 => exact fun _ _ _ h => h
    case hy_15 =>
      refine Or.inl ⟨by rfl, ?_⟩
      intro W hSw
      obtain ⟨q0, q1, q2, q3, q4, q5, q6, q7⟩ := hSw
      go_simp
      try with_reducible rfl
    try simp only [Act.put, List.setIfInBounds_toArray, List.set_cons_zero, List.set_cons_succ]
    refine wpAnyH_take (i := 15) (oi := ?oi_16) (v := ?_) ?hi_16 (by kernel_rfl) ?hf_16 (by kernel_rfl) ?hQ_16 ?hy_16 (by assumption) ?_
    case hi_16 => simp only [List.getElem?_toArray, List.getElem?_cons_zero, List.getElem?_cons_succ]; rfl
    case hf_16 => kernel_rfl
    case hQ_16 => exact fun _ _ _ h => h
    case hy_16 =>
      refine Or.inl ⟨by rfl, ?_⟩
      intro W hSw
      obtain ⟨q0, q1, q2, q3, q4, q5, q6, q7⟩ := hSw
      go_simp
      try with_reducible rfl
    try simp only [Act.put, List.setIfInBounds_toArray, List.set_cons_zero, List.set_cons_succ]
    refine wpAnyH_take (i := 16) (oi := ?oi_17) (v := ?_) ?hi_17 (by kernel_rfl) ?hf_17 (by kernel_rfl) ?hQ_17 ?hy_17 (by assumption) ?_
    case hi_17 => simp only [List.getElem?_toArray, List.getElem?_cons_zero, List.getElem?_cons_succ]; rfl
    case hf_17 => kernel_rfl
    case hQ_17 => exact fun _ _ _ h => h
    case hy_17 =>
      refine Or.inl ⟨by rfl, ?_⟩
      intro W hSw
      obtain ⟨q0, q1, q2, q3, q4, q5, q6, q7⟩ := hSw
      go_simp
      try with_reducible rfl
    try simp only [Act.put, List.setIfInBounds_toArray, List.set_cons_zero, List.set_cons_succ]
    refine wpAnyH_take (i := 17) (oi := ?oi_18) (v := ?_) ?hi_18 (by kernel_rfl) ?hf_18 (by kernel_rfl) ?hQ_18 ?hy_18 (by assumption) ?_
    case hi_18 => simp only [List.getElem?_toArray, List.getElem?_cons_zero, List.getElem?_cons_succ]; rfl
    case hf_18 => kernel_rfl
    case hQ_18 => exact fun _ _ _ h => h
    case hy_18 =>
      refine Or.inl ⟨by rfl, ?_⟩
      intro W hSw
      obtain ⟨q0, q1, q2, q3, q4, q5, q6, q7⟩ := hSw
      go_simp
      try with_reducible rfl
    try simp only [Act.put, List.setIfInBounds_toArray, List.set_cons_zero, List.set_cons_succ]
    refine wpAnyH_ready (rs := [18]) (by kernel_rfl) (by simp) ?_
    refine AllReadyH.cons (o := ?oi_19) ?hi_19 (fun K hK => ?_) AllReadyH.nil
    case hi_19 => simp only [List.getElem?_toArray, List.getElem?_cons_zero, List.getElem?_cons_succ]; rfl
    go_simp
    (go_at_call 16
     with_reducible refine HWr.out.mono ?_
     rintro e w7 ⟨rfl, hS7, hK7⟩
     have hbxo := HBX.out
     have HS7 := Lib.hid hS7
     have HK7 : Hid (KX w0 (fun q => (X q ∨ (w.heap.size ≤ q ∧ q < w.heap.size + 8 ∧ q < W0.heap.size)) ∨ q = bx) W w7) := Lib.hid (Fr.undrew hK7)
     have hK2 : w7.cell? ⟨w.heap.size, 0, none⟩ = some (.pointer (some ⟨M, 0, none⟩)) ∧ w7.cell? ⟨M, 0, none⟩ = some (.pointer (some ⟨A.p, 0, none⟩)) ∧ w7.cell? ⟨M, 1, none⟩ = some (.int .i64 num) ∧ w7.cell? ⟨bx, 0, none⟩ = some (.int .i64 q) ∧ w7.cell? ⟨bx, 1, none⟩ = some (.int .i64 r) ∧ w7.cell? ⟨bx, 2, none⟩ = some (.int .i64 fr) ∧ w7.cell? ⟨bx, 3, none⟩ = some (.int .i64 t) ∧ w7.cell? ⟨w.heap.size + 1, 0, none⟩ = some (.slice (some ⟨gb, off, none⟩) n cp) :=
       ⟨(kcell hK7 (.inl (.inr ⟨by omega, by omega, by omega⟩)) (by show _ < W.heap.size; omega)).trans x0, (kcell hK7 (.inl (.inl hX)) (by show _ < W.heap.size; omega)).trans x1, (kcell hK7 (.inl (.inl hX)) (by show _ < W.heap.size; omega)).trans x2, (kcell hK7 (.inr rfl) (by show _ < W.heap.size; omega)).trans x3, (kcell hK7 (.inr rfl) (by show _ < W.heap.size; omega)).trans x4, (kcell hK7 (.inr rfl) (by show _ < W.heap.size; omega)).trans x5, (kcell hK7 (.inr rfl) (by show _ < W.heap.size; omega)).trans x6, (kcell hK7 (.inl (.inr ⟨by omega, by omega, by omega⟩)) (by show _ < W.heap.size; omega)).trans x7⟩
     clear hS7 hK7 hbxo)
    refine hK.out _ _ hK2 (fun hHeld => ?_)
    clear hK K
    try simp only [Act.put, List.setIfInBounds_toArray, List.set_cons_zero, List.set_cons_succ]
    refine wpAnyH_take (i := 19) (oi := ?oi_20) (v := ?_) ?hi_20 (by kernel_rfl) ?hf_20 (by kernel_rfl) ?hQ_20 ?hy_20 (by assumption) ?_
    case hi_20 => simp only [List.getElem?_toArray, List.getElem?_cons_zero, List.getElem?_cons_succ]; rfl
    case hf_20 => kernel_rfl
    case hQ_20 => exact fun _ _ _ h => h
    case hy_20 =>
      refine Or.inl ⟨by rfl, ?_⟩
      intro W hSw
      obtain ⟨q0, q1, q2, q3, q4, q5, q6, q7⟩ := hSw
      go_simp
      try with_reducible rfl
    try simp only [Act.put, List.setIfInBounds_toArray, List.set_cons_zero, List.set_cons_succ]
    refine wpAnyH_done (by kernel_rfl) ?_ _
    clear hHeld hK2 x0 x1 x2 x3 x4 x5 x6 x7
    refine wpIn_seq ?_
    refine region_in_list (ndf_of (by kernel_rfl)) (by rintro ⟨_, _, h⟩; exact absurd h.1 (by intro h; cases h)) ?_
    go_wp2
    refine wpIn_cond_false rfl ?_
    refine wpIn_skip ?_
    simp only [Exit.inBlock]
    have hbxo := HBX.out
    have hD3 : w3.heap.size = w.heap.size + 6 := hW3s
    have hkx : ∀ q, (X q ∨ (w.heap.size ≤ q ∧ q < w.heap.size + 8)) → q < W.heap.size → w7.heap[q]? = W.heap[q]? := fun q h1 h2 => (KX.fr HK7.out).block q h2 (fun h3 => h3.2 (by
      rcases h1 with h1 | h1
      · exact .inl (.inl h1)
      · exact .inl (.inr ⟨h1.1, h1.2, by omega⟩)))
    have hs7 : W.heap.size ≤ w7.heap.size := (KX.fr HK7.out).size
    have hI := HI'.out
    refine ⟨trivial, ?_, fun q hq => hkx q (.inr ⟨by omega, by omega⟩) (by omega), hs7⟩
    rw [← HT.out]
    refine ⟨⟨c + 1, HCn.out, (HS7.out.less (fun q hq => ?_)).more (by omega) (by omega)⟩, n2, (hkx _ (.inr ⟨by omega, by omega⟩) (by omega)).trans hI.b3, (hkx _ (.inr ⟨by omega, by omega⟩) (by omega)).trans hI.b5, (hkx _ (.inr ⟨by omega, by omega⟩) (by omega)).trans hI.b6, (hkx _ (.inr ⟨by omega, by omega⟩) (by omega)).trans hI.bm, (hkx _ (.inr ⟨by omega, by omega⟩) (by omega)).trans hI.bn, (hkx M (.inl hX) (by omega)).trans hI.mm,
      byt_fr hI.by_ (KX.fr HK7.out) (fun g e h0 hh => ?_), Fr.trans hI.kx ((KX.fr HK7.out).more (fun q hq => ⟨hq.1, fun hx => hq.2 (.inl (.inl hx))⟩)), by omega⟩
    · rcases hq with e | ⟨e1, e2, _⟩
      · exact .inl (.inl e)
      · exact .inl (.inr ⟨e1, e2, by omega⟩)
    · rcases HBX0.out g e h0 with e' | e'
      · exact hh.2 (.inl (.inl e'))
      · have := hh.1; omega
  case done =>
    intro W hI hD hsz'
    have d6 := hI.b6.cell 0
    have z6 := hI.b6.frozen 0
    simp only [Exit.inBlock, Exit.then]
    go_wp2
    have hs4 : w3.heap.size = w.heap.size + 6 := hW3s
    have hF5 : Fr (fun q => q = w.heap.size + 2) W (W.setCell ⟨w.heap.size + 1 + 1, 0, none⟩ (.int .i64 0)) := (Fr.refl (fun q => q = w.heap.size + 2) W).set_ (p := ⟨w.heap.size + 1 + 1, 0, none⟩) rfl _
    have hb6 : Blk (W.setCell ⟨w.heap.size + 1 + 1, 0, none⟩ (.int .i64 0)) (w.heap.size + 2) 25 #[.int .i64 0] := hI.b6.set_ 0 _
    obtain ⟨W5, hW5⟩ : ∃ W5, W5 = W.setCell ⟨w.heap.size + 1 + 1, 0, none⟩ (.int .i64 0) := ⟨_, rfl⟩
    rw [← hW5] at hF5 hb6 ⊢
    rw [hs4] at hD hsz'
    have hK5 : W5.heap[w.heap.size + 6]? = some (.deferred (some [])) := (hF5.block _ (by omega) (by omega)).trans hD
    rw [hs4]
    refine ⟨by simp, .inl ⟨_, _, rfl, run_takeDeferred hK5, ?_⟩⟩
    have hF6 : Fr (fun q => q = w.heap.size + 6) W5 (W5.putObj (w.heap.size + 6) (.deferred none)) := (Fr.refl _ W5).putObj _ rfl
    have hc6 := (hb6.fr hF6 (by omega)).cell 0
    have hF := (hF5.more (T := fun q => q = w.heap.size + 2 ∨ q = w.heap.size + 6) (fun q hq => by omega)).trans (hF6.more (fun q hq => by omega))
    obtain ⟨W6, hW6⟩ : ∃ W6, W6 = W5.putObj (w.heap.size + 6) (.deferred none) := ⟨_, rfl⟩
    rw [← hW6] at hc6 hF ⊢
    have hres : Try.f51.results = #[.cell 6 25] := rfl
    refine ⟨.int .i64 0, ?_, ?_⟩
    · have hc6' : W6.cell? ⟨w.heap.size + 1 + 1, 0, none⟩ = some (.int .i64 0) := hc6
      simp [results, hres, go_sem, hc6']
    · obtain ⟨c, hc, hS⟩ := hI.ex
      refine ⟨rfl, (hS.ext hF (fun q hq => ?_) (fun q hq => .inl (.inl hq))).more (by have := hc.2.2; omega) (by have := hc.2.2; omega), Fr.trans_new hI.kx hF (fun q hq => .inr (by omega))⟩
      exact .inl (.inr ⟨by omega, by omega, by omega⟩)
end Go.Proofs.Ytlnffcledpccjaa
