/-
  space.Memory.read.
-/
import Derived.Test.YtlnffcledpccjaaRd
import Derived.OwnWalk
import Derived.WalkKit
import Derived.ProofKit
import Derived.OpenShut
import Derived.ShutString
import Derived.ChangeOld
import Derived.Below
namespace Go.Proofs.Ytlnffcledpccjaa
set_option linter.unusedVariables false
set_option linter.unusedSimpArgs false
open Go.RowKit Go.Shelf
/-- a memory -/
def mmC (pg num pages most capped : Nat) (wide : Bool) : Array Value := #[.pointer (some ⟨pg, 0, none⟩), .int .i64 num, .int .i64 pages, .int .i64 most, .int .i64 capped, .bool wide]
/-- between two rounds of a reading -/
structure RI (w0 w : World) (A : Pa) (bb rm gm nf sz cap : Nat) (C : Nat × Nat → List Nat) (k o : Nat) (X : Nat → Prop) (num M : Nat) (mc : Array Value) (place n s : Nat) (fr : Nat) (W : World) : Prop where
  ex : ∃ c, cnt_ place n sz fr c ∧ S1 w0 A bb rm gm nf sz cap C k (o + 3 * c) (fun q => X q ∨ (w.heap.size ≤ q ∧ q < s + 6 ∧ q < W.heap.size)) W
  le : fr ≤ n
  b3 : Blk W w.heap.size 48 #[.pointer (some ⟨M, 0, none⟩)]
  b6 : Blk W (w.heap.size + 1) 34 #[.slice none 0 0]
  b7 : Blk W (w.heap.size + 2) 25 #[.int .i64 0]
  b8 : Blk W s 34 #[.slice (some ⟨w.heap.size + 3, 0, none⟩) fr n]
  ow : W.ownsRow w.heap.size 5 1 (.slice (some ⟨w.heap.size + 3, 0, none⟩) fr n) fr ((mbs C num sz place fr).map U8)
  bm : Blk W (s + 1) 48 #[.pointer (some ⟨M, 0, none⟩)]
  bn : Blk W (s + 3) 3 #[.int .i64 n]
  mm : Blk W M 117 mc
  kx : KX w0 X w W
  sz_ : s + 4 ≤ W.heap.size
theorem own_fr5 {B : Nat} {w w' : World} {v : Value} {n : Nat} {xs : List Value} {S : Nat → Prop} (h : w.ownsRow B 5 1 v n xs) (hf : Fr S w w') (hS : ∀ q, S q → v.ownBlock ≠ some q) : w'.ownsRow B 5 1 v n xs := by
  refine ⟨h.1, ?_⟩
  rcases h.2 with h0 | ⟨g, cap, cur, e, h1, hg, h2⟩
  · exact .inl h0
  · exact .inr ⟨g, cap, cur, e, h1, hf.keep hg (fun q => hS g q (by rw [e]; rfl)), h2⟩
section
variable {w0 w : World} {A : Pa} {bb rm gm nf sz cap : Nat} {C : Nat × Nat → List Nat} {k o : Nat} {X : Nat → Prop} {num M : Nat} {mc : Array Value} {place n s : Nat} {fr : Nat} {W W' : World}
theorem RI.st (h : RI w0 w A bb rm gm nf sz cap C k o X num M mc place n s fr W) (hM : M < w.heap.size) (hs : w.heap.size + 3 < s) (hf : Fr (fun q => q = s + 2 ∨ q = s + 4 ∨ q = s + 5) W W') (hw0 : w0.heap.size ≤ w.heap.size) : RI w0 w A bb rm gm nf sz cap C k o X num M mc place n s fr W' := by
  obtain ⟨c, hc, hS⟩ := h.ex
  have hsz := h.sz_
  have hfs := hf.size
  refine ⟨⟨c, hc, hS.ext hf (fun q hq => ?_) (fun q hq => ?_)⟩, h.le, h.b3.fr hf (by omega), h.b6.fr hf (by omega), h.b7.fr hf (by omega), h.b8.fr hf (by omega), own_fr5 h.ow hf (fun q hq e => ?_), h.bm.fr hf (by omega), h.bn.fr hf (by omega), h.mm.fr hf (by omega), Fr.trans_new h.kx hf (fun q hq => .inr (by omega)), by omega⟩
  · rcases Nat.lt_or_ge q W.heap.size with p | p
    · exact .inl (.inr ⟨by omega, by omega, p⟩)
    · exact .inr p
  · rcases hq with q1 | ⟨q1, q2, q3⟩
    · exact .inl (.inl q1)
    · rcases Nat.lt_or_ge q W.heap.size with p | p
      · exact .inl (.inr ⟨q1, q2, p⟩)
      · exact .inr ⟨p, q3⟩
  · simp [Value.ownBlock] at e
    omega
end
theorem S1.drew {w0 w : World} {A : Pa} {bb rm gm n sz cap k o : Nat} {C : Nat × Nat → List Nat} {X : Nat → Prop} (h : S1 w0 A bb rm gm n sz cap C k o X w) : S1 w0 A bb rm gm n sz cap C k o X w.drew := h.drewN 1
theorem kcell {w0 w w' : World} {X : Nat → Prop} (h : KX w0 X w w') {g i : Nat} (hx : X g) (hg : g < w.heap.size) : w'.cell? ⟨g, i, none⟩ = w.cell? ⟨g, i, none⟩ := by
  unfold World.cell?
  rw [(KX.fr h).block g hg (fun q => q.2 hx)]
def MrP (w0 : World) (A : Pa) (bb rm gm nf sz cap : Nat) (C : Nat × Nat → List Nat) (k o : Nat) (X : Nat → Prop) (num place n : Nat) (w : World) (e : Ending) (w' : World) : Prop :=
  ∃ g : Nat, e = .returned (.tuple #[.slice (some ⟨g, 0, none⟩) n n, .int .i64 0]) ∧ w.heap.size ≤ g ∧ Byt w' (some ⟨g, 0, none⟩) n n (mbs C num sz place n) ∧ S1 w0 A bb rm gm nf sz cap C k o (fun q => X q ∨ q = g) w' ∧ KX w0 X w w'
set_option maxHeartbeats 4000000 in
set_option maxRecDepth 100000 in
theorem mread_ok {w0 w : World} {A : Pa} {bb rm gm nf sz cap k o : Nat} {C : Nat × Nat → List Nat} {X : Nat → Prop} (h : S1 w0 A bb rm gm nf sz cap C k o X w) (M num pages most capped place n : Nat) (wide : Bool) (hM : Blk w M 117 (mmC A.p num pages most capped wide)) (hX : X M) (hsz : 16 ≤ sz) (hsz2 : sz ≤ 1024) (hnum : num ≤ 9223372036854775807) (hp : place + n ≤ 4611686018427387904) (hn : n ≤ 1048576) (ho : o + 3 * (n / sz + 2) < 900000) (hk : k ≤ cap) :
    Calls Try.prog 49 #[.pointer (some ⟨M, 0, none⟩), .int .u64 place, .int .i64 n] w (MrP w0 A bb rm gm nf sz cap C k (o + 3 * (n / sz + 2)) X num place n w) := by
  obtain ⟨i0, hi, hz0, hz1, hz2⟩ := info_parts info5
  have H := Lib.hid h
  have HM := Lib.hid hM
  clear h hM
  refine callsIn_wide.1 (callsIn_of_wp_marks (n := 3) Try.func49 rfl trivial (wpIn_wide.2 ?_))
  simp only [Try.ntmps49, List.size_toArray, List.length_cons, List.length_nil, Nat.reduceAdd, Nat.reduceSub, Array.replicate_succ, Array.replicate_zero, List.push_toArray, List.append_toArray, List.nil_append, List.cons_append]
  go_wp2_with (first
    | (at_make
       refine wpList_make_lc _ rfl (.const (.int .i64 0)) (.tmp 12) 34 rfl 5 i0 _ Try.underlying34 hi hz0 hz1 .i64 .i64 _ _ 0 n rfl rfl rfl rfl (Nat.zero_le _) (by rw [hz2]; omega) (by unfold maxLen; omega) ?_
       intro w2 hg2 hbel2
       have hf2 : Fr (fun _ => False) w w2 := (((Fr.refl _ w).alloc _).alloc _).alloc _ |>.trans (Fr.of_below hbel2)
       have HF2 := Lib.hid hf2
       have HB3 : Hid (Blk w2 w.heap.size 48 #[.pointer (some ⟨M, 0, none⟩)]) := Lib.hid ((((Blk.new w 48 _).alloc _).alloc _).below hbel2 (by simp; omega))
       have HB6 : Hid (Blk w2 (w.heap.size + 1) 34 #[.slice none 0 0]) := Lib.hid (by
         have h1 := Blk.new (w.alloc (Obj.cells #[.pointer (some ⟨M, 0, none⟩)] 48)) 34 #[.slice none 0 0]
         rw [World.size_alloc] at h1
         exact (h1.alloc _).below hbel2 (by simp))
       have HB7 : Hid (Blk w2 (w.heap.size + 2) 25 #[.int .i64 0]) := Lib.hid (by
         have h1 := Blk.new ((w.alloc (Obj.cells #[.pointer (some ⟨M, 0, none⟩)] 48)).alloc (Obj.cells #[.slice none 0 0] 34)) 25 #[.int .i64 0]
         rw [World.size_alloc, World.size_alloc] at h1
         exact h1.below hbel2 (by simp))
       have HG2 : Hid (Blk w2 (w.heap.size + 3) 5 (madeCells (Value.int IntKind.u8 0).cells n)) := Lib.hid (by
         have h1 := hg2.out
         simp only [World.size_alloc] at h1
         exact h1)
       have hlt2 : w.heap.size + 3 < w2.heap.size := HG2.out.lt
       have cm : ∀ ob, (w2.alloc ob).cell? ⟨w.heap.size, 0, none⟩ = some (.pointer (some ⟨M, 0, none⟩)) := fun ob => (HB3.out.alloc ob).cell 0
       clear hg2 hbel2 hf2)
    | (go_at_call 55; refine (parts_ok M place n _ (by omega) (by omega)).mono ?_; rintro e w3 ⟨rfl, hw3⟩; have HW3 := Lib.hid hw3; clear hw3))
  obtain ⟨s, hs⟩ : ∃ s, s = w2.heap.size := ⟨_, rfl⟩
  have hlt : w.heap.size + 3 < s := by rw [hs]; exact hlt2
  have hMw : M < w.heap.size := HM.out.lt
  have hw3 := HW3.out
  obtain ⟨wa, hwa⟩ : ∃ wa, wa = w2.alloc (Obj.cells #[Value.slice (some ⟨w.heap.size + 3, 0, none⟩) 0 n] 34) := ⟨_, rfl⟩
  have hsa : wa.heap.size = s + 1 := by rw [hwa, World.size_alloc, hs]
  have hb8a : Blk wa s 34 #[.slice (some ⟨w.heap.size + 3, 0, none⟩) 0 n] := by rw [hwa, hs]; exact Blk.new w2 34 _
  have hfa : Fr (fun _ => False) w2 wa := by rw [hwa]; exact (Fr.refl _ w2).alloc _
  rw [← hwa] at hw3
  obtain ⟨wb, hwb⟩ : ∃ wb, wb = wa.alloc (.cells #[.pointer (some ⟨M, 0, none⟩)] 48) := ⟨_, rfl⟩
  rw [← hwb] at hw3
  have hbmb : Blk wb (s + 1) 48 #[.pointer (some ⟨M, 0, none⟩)] := by rw [hwb, ← hsa]; exact Blk.new wa 48 _
  have hsb : wb.heap.size = s + 2 := by rw [hwb, World.size_alloc, hsa]
  have hfb : Fr (fun _ => False) wa wb := by rw [hwb]; exact (Fr.refl _ wa).alloc _
  obtain ⟨wc, hwc⟩ : ∃ wc, wc = wb.alloc (.cells #[.int .u64 place] 56) := ⟨_, rfl⟩
  rw [← hwc] at hw3
  have hbpc : Blk wc (s + 2) 56 #[.int .u64 place] := by rw [hwc, ← hsb]; exact Blk.new wb 56 _
  have hsc : wc.heap.size = s + 3 := by rw [hwc, World.size_alloc, hsb]
  have hfc : Fr (fun _ => False) wb wc := by rw [hwc]; exact (Fr.refl _ wb).alloc _
  have hbn3 : Blk w3 (s + 3) 3 #[.int .i64 n] := by rw [hw3, ← hsc]; exact Blk.new wc 3 _
  have hs3 : w3.heap.size = s + 4 := by rw [hw3, World.size_alloc, hsc]
  have hf3 : Fr (fun _ => False) wc w3 := by rw [hw3]; exact (Fr.refl _ wc).alloc _
  have hff : Fr (fun _ => False) w2 w3 := ((hfa.trans hfb).trans hfc).trans hf3
  have hfw : Fr (fun _ => False) w w3 := HF2.out.trans hff
  have hw0 : w0.heap.size ≤ w.heap.size := H.out.lt
  have nf_ : ∀ q : Nat, ¬ (fun _ => False) q := fun _ q => q
  have hRI : RI w0 w A bb rm gm nf sz cap C k o X num M (mmC A.p num pages most capped wide) place n s 0 w3 :=
    ⟨⟨0, cnt_.nil _ _ _, H.out.ext hfw (fun q hq => hq.elim) (fun q hq => by
      rcases hq with q1 | ⟨q1, q2, q3⟩
      · exact .inl q1
      · exact .inr ⟨q1, q3⟩)⟩, Nat.zero_le _, HB3.out.fr hff (fun q => q), HB6.out.fr hff (fun q => q), HB7.out.fr hff (fun q => q), ((hb8a.fr hfb (fun q => q)).fr hfc (fun q => q)).fr hf3 (fun q => q),
      ⟨by simp [mbs], .inr ⟨w.heap.size + 3, n, _, rfl, by omega, HG2.out.fr hff (fun q => q), Nat.zero_le _, by unfold maxLen; omega, by rw [size_madeCells, Nat.mul_one], by simp [mbs]⟩⟩,
      (hbmb.fr hfc (fun q => q)).fr hf3 (fun q => q), hbn3, HM.out.fr hfw (fun q => q), (KX.refl w0 X w).new hfw, by omega⟩
  have hbp3 : Blk w3 (s + 2) 56 #[.int .u64 place] := hbpc.fr hf3 (fun q => q)
  have HRI := Lib.hid hRI
  have HBP := Lib.hid hbp3
  clear hRI hbp3 hbn3 hbpc hbmb hb8a hff hfw hf3 hfc hfb hfa hw3 hwc hwb hwa HW3 cm HG2 HB7 HB6 HB3 HF2
  rw [← hs]
  have hW3s := hs3
  clear hs hlt2 hsa hsb hsc
  refine wpIn_wide.1 (parts_range (m := 1) 3 (s + 1) (s + 3) (s + 2) M A.p sz n place rfl rfl rfl hsz hsz2 (by omega) hp (by omega)
    (RI w0 w A bb rm gm nf sz cap C k o X num M (mmC A.p num pages most capped wide) place n s)
    (fun fr bx => { tmps := #[.pointer (some ⟨M, 0, none⟩), .int .u64 place, .int .i64 n, .pointer (some ⟨w.heap.size, 0, none⟩), undef, undef, .pointer (some ⟨w.heap.size + 1, 0, none⟩), .pointer (some ⟨w.heap.size + 1 + 1, 0, none⟩), .pointer (some ⟨s, 0, none⟩), .pointer (some ⟨bx, 0, none⟩), undef, undef, .int .i64 n, .slice (some ⟨w.heap.size + 1 + 1 + 1, 0, none⟩) 0 n, .pointer (some ⟨M, 0, none⟩), .int .u64 place, .int .i64 n, .func (.func 73) #[] #[.pointer (some ⟨s + 1, 0, none⟩), .pointer (some ⟨s + 1 + 2, 0, none⟩), .pointer (some ⟨s + 1 + 1, 0, none⟩)], prt place n sz fr, undef, undef, undef, undef, undef, undef, undef, undef, undef, undef, undef, undef, undef, undef, undef, undef, undef, undef, undef, undef, undef, undef, undef, undef, undef, undef, undef, undef], defers := [] })
    (fun fr W W' hI hf => hI.st hMw hlt (hf.more (fun q hq => by omega)) hw0) ?hc HRI.out HBP.out ?assign ?body ?done)
  case hc =>
    intro fr W hI
    obtain ⟨c, hc, hS⟩ := hI.ex
    obtain ⟨d, ad, W_, h1, h2, h3, h4, _⟩ := hS.ex
    have hps := PSize_ok h1.lay
    rw [h4] at hps
    exact ⟨hI.bm.cell 0, hI.mm.cell 0, hI.bn.cell 0, hps⟩
  case assign =>
    intro fr W K hI hK
    refine region_in_list (ndf_of (by kernel_rfl)) (by rintro ⟨_, _, h⟩; exact h) ?_
    have hK1 := hK (W.alloc (Obj.cells (prtC place n sz fr) 130)) ((Fr.refl _ W).alloc _) (Blk.new W 130 _) (World.size_alloc _ _)
    unfold prtC prt at hK1
    unfold prt
    clear hK
    generalize (place + fr) / sz = q1 at hK1 ⊢
    generalize (place + fr) % sz = q2 at hK1 ⊢
    generalize nxt place n sz fr = q3 at hK1 ⊢
    go_wp2
    exact hK1
  case body =>
    intro fr bx W0 W hfr hI hbx hle hf hsW hBx
    obtain ⟨c, hc, hS⟩ := hI.ex
    have hI' := hI.st hMw hlt (hf.more (fun q hq => by omega)) hw0
    have hSW : S1 w0 A bb rm gm nf sz cap C k (o + 3 * c) (fun q => (X q ∨ (w.heap.size ≤ q ∧ q < s + 6 ∧ q < W0.heap.size)) ∨ q = bx) W := hS.ext hf (fun q hq => .inl (.inr ⟨by omega, by omega, by omega⟩)) (fun q hq => by
      rcases hq with q1 | q1
      · exact .inl q1
      · exact .inr ⟨by omega, by omega⟩)
    have HBX := Lib.hid hbx
    clear hbx
    have x0 := (hI'.b3.drewN 1).cell 0
    have x1 := (hI'.mm.drewN 1).cell 0
    have x2 := (hI'.mm.drewN 1).cell 1
    have hBd := hBx.drewN 1
    have x3 := hBd.cell 0
    have x4 := hBd.cell 1
    have x5 := hBd.cell 2
    have x6 := hBd.cell 3
    have HN := Lib.hid (nxt_lt (place := place) hfr (by omega : 0 < sz))
    have HCn := Lib.hid (hc.next hfr (by omega : 0 < sz))
    have HCc := Lib.hid hc.2.2
    obtain ⟨t, ht⟩ : ∃ t, t = nxt place n sz fr := ⟨_, rfl⟩
    obtain ⟨q, hq⟩ : ∃ q, q = (place + fr) / sz := ⟨_, rfl⟩
    obtain ⟨r, hr⟩ : ∃ r, r = (place + fr) % sz := ⟨_, rfl⟩
    unfold prtC at x3 x4 x5 x6
    rw [← ht] at HN HCn
    rw [← ht, ← hq, ← hr] at x3 x4 x5 x6
    rw [← hr] at HN
    have HT := Lib.hid ht
    have hqp : q ≤ 4611686018427387904 := by rw [hq]; have := Nat.div_le_self (place + fr) sz; omega
    have HQ := Lib.hid (And.intro hq hr)
    obtain ⟨n1, n2, n3⟩ := HN.out
    have hrd := (S1.drew hSW).readI (ai := num) (bi := q) (oi := r) (ni := IntKind.i64.wrap ((t : Int) - (fr : Int))) num q r (t - fr) ⟨hnum, by show q ≤ _; omega⟩ (by omega) (by omega) (by have := HCc.out; omega) hk rfl rfl rfl (by rw [IntKind.wrap_i64]; omega)
    unfold RdP at hrd
    have HRd := Lib.hid hrd
    have HI' := Lib.hid hI'
    have HCl := Lib.hid (show ∀ x, (C x).length = sz from fun x => by
      obtain ⟨d, ad, W_, g1, g2, g3, g4, _⟩ := hSW.ex
      rw [(g1.pi.len x).1, g4])
    have z8 := hI'.sz_
    change w3.heap.size + 2 ≤ bx at hle
    clear hrd hI' hI hS hSW hBx hBd ht hq hr hc hf
    have e1 : (1 : Int) = 1 := rfl
    refine wpIn_block ?_
    refine wpIn_seq ?_
    refine region_in_held (S := (fun W => W.cell? ⟨w.heap.size, 0, none⟩ = some (.pointer (some ⟨M, 0, none⟩)) ∧ W.cell? ⟨M, 0, none⟩ = some (.pointer (some ⟨A.p, 0, none⟩)) ∧ W.cell? ⟨M, 1, none⟩ = some (.int .i64 num) ∧ W.cell? ⟨bx, 0, none⟩ = some (.int .i64 q) ∧ W.cell? ⟨bx, 1, none⟩ = some (.int .i64 r) ∧ W.cell? ⟨bx, 2, none⟩ = some (.int .i64 fr) ∧ W.cell? ⟨bx, 3, none⟩ = some (.int .i64 t))) (ndf_of (by kernel_rfl)) (by rintro ⟨_, _, h⟩; exact absurd h.1 (by intro h; cases h)) (by kernel_rfl) ⟨x0, x1, x2, x3, x4, x5, x6⟩ (fun hHeld => ?_)
    refine wpAnyH_take (i := 0) (oi := ?oi_1) (v := ?_) ?hi_1 (by kernel_rfl) ?hf_1 (by kernel_rfl) ?hQ_1 ?hy_1 (by assumption) ?_
    case hi_1 => simp only [List.getElem?_toArray, List.getElem?_cons_zero, List.getElem?_cons_succ]; rfl
    case hf_1 => kernel_rfl
    case hQ_1 => exact fun _ _ _ h => h
    case hy_1 =>
      refine Or.inl ⟨by rfl, ?_⟩
      intro W hSw
      obtain ⟨q0, q1, q2, q3, q4, q5, q6⟩ := hSw
      go_simp
      try with_reducible rfl
    try simp only [Act.put, List.setIfInBounds_toArray, List.set_cons_zero, List.set_cons_succ]
    refine wpAnyH_take (i := 1) (oi := ?oi_2) (v := ?_) ?hi_2 (by kernel_rfl) ?hf_2 (by kernel_rfl) ?hQ_2 ?hy_2 (by assumption) ?_
    case hi_2 => simp only [List.getElem?_toArray, List.getElem?_cons_zero, List.getElem?_cons_succ]; rfl
    case hf_2 => kernel_rfl
    case hQ_2 => exact fun _ _ _ h => h
    case hy_2 =>
      refine Or.inl ⟨by rfl, ?_⟩
      intro W hSw
      obtain ⟨q0, q1, q2, q3, q4, q5, q6⟩ := hSw
      go_simp
      try with_reducible rfl
    try simp only [Act.put, List.setIfInBounds_toArray, List.set_cons_zero, List.set_cons_succ]
    refine wpAnyH_take (i := 2) (oi := ?oi_3) (v := ?_) ?hi_3 (by kernel_rfl) ?hf_3 (by kernel_rfl) ?hQ_3 ?hy_3 (by assumption) ?_
    case hi_3 => simp only [List.getElem?_toArray, List.getElem?_cons_zero, List.getElem?_cons_succ]; rfl
    case hf_3 => kernel_rfl
    case hQ_3 => exact fun _ _ _ h => h
    case hy_3 =>
      refine Or.inl ⟨by rfl, ?_⟩
      intro W hSw
      obtain ⟨q0, q1, q2, q3, q4, q5, q6⟩ := hSw
      go_simp
      try with_reducible rfl
    try simp only [Act.put, List.setIfInBounds_toArray, List.set_cons_zero, List.set_cons_succ]
    refine wpAnyH_take (i := 3) (oi := ?oi_4) (v := ?_) ?hi_4 (by kernel_rfl) ?hf_4 (by kernel_rfl) ?hQ_4 ?hy_4 (by assumption) ?_
    case hi_4 => simp only [List.getElem?_toArray, List.getElem?_cons_zero, List.getElem?_cons_succ]; rfl
    case hf_4 => kernel_rfl
    case hQ_4 => exact fun _ _ _ h => h
    case hy_4 =>
      refine Or.inl ⟨by rfl, ?_⟩
      intro W hSw
      obtain ⟨q0, q1, q2, q3, q4, q5, q6⟩ := hSw
      go_simp
      try with_reducible rfl
    try simp only [Act.put, List.setIfInBounds_toArray, List.set_cons_zero, List.set_cons_succ]
    refine wpAnyH_take (i := 4) (oi := ?oi_5) (v := ?_) ?hi_5 (by kernel_rfl) ?hf_5 (by kernel_rfl) ?hQ_5 ?hy_5 (by assumption) ?_
    case hi_5 => simp only [List.getElem?_toArray, List.getElem?_cons_zero, List.getElem?_cons_succ]; rfl
    case hf_5 => kernel_rfl
    case hQ_5 => exact fun _ _ _ h => h
    case hy_5 =>
      refine Or.inl ⟨by rfl, ?_⟩
      intro W hSw
      obtain ⟨q0, q1, q2, q3, q4, q5, q6⟩ := hSw
      go_simp
      try with_reducible rfl
    try simp only [Act.put, List.setIfInBounds_toArray, List.set_cons_zero, List.set_cons_succ]
    refine wpAnyH_take (i := 5) (oi := ?oi_6) (v := ?_) ?hi_6 (by kernel_rfl) ?hf_6 (by kernel_rfl) ?hQ_6 ?hy_6 (by assumption) ?_
    case hi_6 => simp only [List.getElem?_toArray, List.getElem?_cons_zero, List.getElem?_cons_succ]; rfl
    case hf_6 => kernel_rfl
    case hQ_6 => exact fun _ _ _ h => h
    case hy_6 =>
      refine Or.inl ⟨by rfl, ?_⟩
      intro W hSw
      obtain ⟨q0, q1, q2, q3, q4, q5, q6⟩ := hSw
      go_simp
      try with_reducible rfl
    try simp only [Act.put, List.setIfInBounds_toArray, List.set_cons_zero, List.set_cons_succ]
    refine wpAnyH_take (i := 6) (oi := ?oi_7) (v := ?_) ?hi_7 (by kernel_rfl) ?hf_7 (by kernel_rfl) ?hQ_7 ?hy_7 (by assumption) ?_
    case hi_7 => simp only [List.getElem?_toArray, List.getElem?_cons_zero, List.getElem?_cons_succ]; rfl
    case hf_7 => kernel_rfl
    case hQ_7 => exact fun _ _ _ h => h
    case hy_7 =>
      refine Or.inl ⟨by rfl, ?_⟩
      intro W hSw
      obtain ⟨q0, q1, q2, q3, q4, q5, q6⟩ := hSw
      go_simp
      try with_reducible rfl
    try simp only [Act.put, List.setIfInBounds_toArray, List.set_cons_zero, List.set_cons_succ]
    refine wpAnyH_take (i := 7) (oi := ?oi_8) (v := ?_) ?hi_8 (by kernel_rfl) ?hf_8 (by kernel_rfl) ?hQ_8 ?hy_8 (by assumption) ?_
    case hi_8 => simp only [List.getElem?_toArray, List.getElem?_cons_zero, List.getElem?_cons_succ]; rfl
    case hf_8 => kernel_rfl
    case hQ_8 => exact fun _ _ _ h => h
    case hy_8 =>
      refine Or.inl ⟨by rfl, ?_⟩
      intro W hSw
      obtain ⟨q0, q1, q2, q3, q4, q5, q6⟩ := hSw
      go_simp
      try with_reducible rfl
    try simp only [Act.put, List.setIfInBounds_toArray, List.set_cons_zero, List.set_cons_succ]
    refine wpAnyH_take (i := 8) (oi := ?oi_9) (v := ?_) ?hi_9 (by kernel_rfl) ?hf_9 (by kernel_rfl) ?hQ_9 ?hy_9 (by assumption) ?_
    case hi_9 => simp only [List.getElem?_toArray, List.getElem?_cons_zero, List.getElem?_cons_succ]; rfl
    case hf_9 => kernel_rfl
    case hQ_9 => exact fun _ _ _ h => h
    case hy_9 =>
      refine Or.inl ⟨by rfl, ?_⟩
      intro W hSw
      obtain ⟨q0, q1, q2, q3, q4, q5, q6⟩ := hSw
      go_simp
      try with_reducible rfl
    try simp only [Act.put, List.setIfInBounds_toArray, List.set_cons_zero, List.set_cons_succ]
    refine wpAnyH_take (i := 9) (oi := ?oi_10) (v := ?_) ?hi_10 (by kernel_rfl) ?hf_10 (by kernel_rfl) ?hQ_10 ?hy_10 (by assumption) ?_
    case hi_10 => simp only [List.getElem?_toArray, List.getElem?_cons_zero, List.getElem?_cons_succ]; rfl
    case hf_10 => kernel_rfl
    case hQ_10 => exact fun _ _ _ h => h
    case hy_10 =>
      refine Or.inl ⟨by rfl, ?_⟩
      intro W hSw
      obtain ⟨q0, q1, q2, q3, q4, q5, q6⟩ := hSw
      go_simp
      try with_reducible rfl
    try simp only [Act.put, List.setIfInBounds_toArray, List.set_cons_zero, List.set_cons_succ]
    refine wpAnyH_take (i := 10) (oi := ?oi_11) (v := ?_) ?hi_11 (by kernel_rfl) ?hf_11 (by kernel_rfl) ?hQ_11 ?hy_11 (by assumption) ?_
    case hi_11 => simp only [List.getElem?_toArray, List.getElem?_cons_zero, List.getElem?_cons_succ]; rfl
    case hf_11 => kernel_rfl
    case hQ_11 => exact fun _ _ _ h => h
    case hy_11 =>
      refine Or.inl ⟨by rfl, ?_⟩
      intro W hSw
      obtain ⟨q0, q1, q2, q3, q4, q5, q6⟩ := hSw
      go_simp
      try with_reducible rfl
    try simp only [Act.put, List.setIfInBounds_toArray, List.set_cons_zero, List.set_cons_succ]
    refine wpAnyH_take (i := 11) (oi := ?oi_12) (v := ?_) ?hi_12 (by kernel_rfl) ?hf_12 (by kernel_rfl) ?hQ_12 ?hy_12 (by assumption) ?_
    case hi_12 => simp only [List.getElem?_toArray, List.getElem?_cons_zero, List.getElem?_cons_succ]; rfl
    case hf_12 => kernel_rfl
    case hQ_12 => exact fun _ _ _ h => h
    case hy_12 =>
      refine Or.inl ⟨by rfl, ?_⟩
      intro W hSw
      obtain ⟨q0, q1, q2, q3, q4, q5, q6⟩ := hSw
      go_simp
      try with_reducible rfl
    try simp only [Act.put, List.setIfInBounds_toArray, List.set_cons_zero, List.set_cons_succ]
    refine wpAnyH_take (i := 12) (oi := ?oi_13) (v := ?_) ?hi_13 (by kernel_rfl) ?hf_13 (by kernel_rfl) ?hQ_13 ?hy_13 (by assumption) ?_
    case hi_13 => simp only [List.getElem?_toArray, List.getElem?_cons_zero, List.getElem?_cons_succ]; rfl
    case hf_13 => kernel_rfl
    case hQ_13 => exact fun _ _ _ h => h
    case hy_13 =>
      refine Or.inl ⟨by rfl, ?_⟩
      intro W hSw
      obtain ⟨q0, q1, q2, q3, q4, q5, q6⟩ := hSw
      go_simp
      try with_reducible rfl
    try simp only [Act.put, List.setIfInBounds_toArray, List.set_cons_zero, List.set_cons_succ]
    refine wpAnyH_take (i := 13) (oi := ?oi_14) (v := ?_) ?hi_14 (by kernel_rfl) ?hf_14 (by kernel_rfl) ?hQ_14 ?hy_14 (by assumption) ?_
    case hi_14 => simp only [List.getElem?_toArray, List.getElem?_cons_zero, List.getElem?_cons_succ]; rfl
    case hf_14 => kernel_rfl
    case hQ_14 => exact fun _ _ _ h => h
    case hy_14 =>
      refine Or.inl ⟨by rfl, ?_⟩
      intro W hSw
      obtain ⟨q0, q1, q2, q3, q4, q5, q6⟩ := hSw
      go_simp
      try with_reducible rfl
    try simp only [Act.put, List.setIfInBounds_toArray, List.set_cons_zero, List.set_cons_succ]
    refine wpAnyH_take (i := 14) (oi := ?oi_15) (v := ?_) ?hi_15 (by kernel_rfl) ?hf_15 (by kernel_rfl) ?hQ_15 ?hy_15 (by assumption) ?_
    case hi_15 => simp only [List.getElem?_toArray, List.getElem?_cons_zero, List.getElem?_cons_succ]; rfl
    case hf_15 => kernel_rfl
    case hQ_15 => exact fun _ _ _ h => h
    case hy_15 =>
      refine Or.inl ⟨by rfl, ?_⟩
      intro W hSw
      obtain ⟨q0, q1, q2, q3, q4, q5, q6⟩ := hSw
      go_simp
      try with_reducible rfl
    try simp only [Act.put, List.setIfInBounds_toArray, List.set_cons_zero, List.set_cons_succ]
    refine wpAnyH_take (i := 15) (oi := ?oi_16) (v := ?_) ?hi_16 (by kernel_rfl) ?hf_16 (by kernel_rfl) ?hQ_16 ?hy_16 (by assumption) ?_
    case hi_16 => simp only [List.getElem?_toArray, List.getElem?_cons_zero, List.getElem?_cons_succ]; rfl
    case hf_16 => kernel_rfl
    case hQ_16 => exact fun _ _ _ h => h
    case hy_16 =>
      refine Or.inl ⟨by rfl, ?_⟩
      intro W hSw
      obtain ⟨q0, q1, q2, q3, q4, q5, q6⟩ := hSw
      go_simp
      try with_reducible rfl
    try simp only [Act.put, List.setIfInBounds_toArray, List.set_cons_zero, List.set_cons_succ]
    refine wpAnyH_take (i := 16) (oi := ?oi_17) (v := ?_) ?hi_17 (by kernel_rfl) ?hf_17 (by kernel_rfl) ?hQ_17 ?hy_17 (by assumption) ?_
    case hi_17 => simp only [List.getElem?_toArray, List.getElem?_cons_zero, List.getElem?_cons_succ]; rfl
    case hf_17 => kernel_rfl
    case hQ_17 => exact fun _ _ _ h => h
    case hy_17 =>
      refine Or.inl ⟨by rfl, ?_⟩
      intro W hSw
      obtain ⟨q0, q1, q2, q3, q4, q5, q6⟩ := hSw
      go_simp
      try with_reducible rfl
    try simp only [Act.put, List.setIfInBounds_toArray, List.set_cons_zero, List.set_cons_succ]
    refine wpAnyH_ready (rs := [17]) (by kernel_rfl) (by simp) ?_
    refine AllReadyH.cons (o := ?oi_18) ?hi_18 (fun K hK => ?_) AllReadyH.nil
    case hi_18 => simp only [List.getElem?_toArray, List.getElem?_cons_zero, List.getElem?_cons_succ]; rfl
    go_simp
    (go_at_call 15
     with_reducible refine HRd.out.mono ?_
     rintro e w7 ⟨g2, rfl, hg2, hy2, hS7, hK7⟩
     have hbxo := HBX.out
     have HS7 := Lib.hid hS7
     have HK7 : Hid (KX w0 (fun q => (X q ∨ (w.heap.size ≤ q ∧ q < s + 6 ∧ q < W0.heap.size)) ∨ q = bx) W w7) := Lib.hid (Fr.undrew hK7)
     have HY7 := Lib.hid hy2
     have HG7 := Lib.hid hg2
     have hK2 : w7.cell? ⟨w.heap.size, 0, none⟩ = some (.pointer (some ⟨M, 0, none⟩)) ∧ w7.cell? ⟨M, 0, none⟩ = some (.pointer (some ⟨A.p, 0, none⟩)) ∧ w7.cell? ⟨M, 1, none⟩ = some (.int .i64 num) ∧ w7.cell? ⟨bx, 0, none⟩ = some (.int .i64 q) ∧ w7.cell? ⟨bx, 1, none⟩ = some (.int .i64 r) ∧ w7.cell? ⟨bx, 2, none⟩ = some (.int .i64 fr) ∧ w7.cell? ⟨bx, 3, none⟩ = some (.int .i64 t) :=
       ⟨(kcell hK7 (.inl (.inr ⟨by omega, by omega, by omega⟩)) (by show _ < W.heap.size; omega)).trans x0, (kcell hK7 (.inl (.inl hX)) (by show _ < W.heap.size; omega)).trans x1, (kcell hK7 (.inl (.inl hX)) (by show _ < W.heap.size; omega)).trans x2, (kcell hK7 (.inr rfl) (by show _ < W.heap.size; omega)).trans x3, (kcell hK7 (.inr rfl) (by show _ < W.heap.size; omega)).trans x4, (kcell hK7 (.inr rfl) (by show _ < W.heap.size; omega)).trans x5, (kcell hK7 (.inr rfl) (by show _ < W.heap.size; omega)).trans x6⟩
     clear hS7 hK7 hy2 hg2 hbxo)
    refine hK.out _ _ hK2 (fun hHeld => ?_)
    clear hK K
    try simp only [Act.put, List.setIfInBounds_toArray, List.set_cons_zero, List.set_cons_succ]
    refine wpAnyH_take (i := 18) (oi := ?oi_19) (v := ?_) ?hi_19 (by kernel_rfl) ?hf_19 (by kernel_rfl) ?hQ_19 ?hy_19 (by assumption) ?_
    case hi_19 => simp only [List.getElem?_toArray, List.getElem?_cons_zero, List.getElem?_cons_succ]; rfl
    case hf_19 => kernel_rfl
    case hQ_19 => exact fun _ _ _ h => h
    case hy_19 =>
      refine Or.inl ⟨by rfl, ?_⟩
      intro W hSw
      obtain ⟨q0, q1, q2, q3, q4, q5, q6⟩ := hSw
      go_simp
      try with_reducible rfl
    try simp only [Act.put, List.setIfInBounds_toArray, List.set_cons_zero, List.set_cons_succ]
    refine wpAnyH_take (i := 19) (oi := ?oi_20) (v := ?_) ?hi_20 (by kernel_rfl) ?hf_20 (by kernel_rfl) ?hQ_20 ?hy_20 (by assumption) ?_
    case hi_20 => simp only [List.getElem?_toArray, List.getElem?_cons_zero, List.getElem?_cons_succ]; rfl
    case hf_20 => kernel_rfl
    case hQ_20 => exact fun _ _ _ h => h
    case hy_20 =>
      refine Or.inl ⟨by rfl, ?_⟩
      intro W hSw
      obtain ⟨q0, q1, q2, q3, q4, q5, q6⟩ := hSw
      go_simp
      try with_reducible rfl
    try simp only [Act.put, List.setIfInBounds_toArray, List.set_cons_zero, List.set_cons_succ]
    refine wpAnyH_take (i := 20) (oi := ?oi_21) (v := ?_) ?hi_21 (by kernel_rfl) ?hf_21 (by kernel_rfl) ?hQ_21 ?hy_21 (by assumption) ?_
    case hi_21 => simp only [List.getElem?_toArray, List.getElem?_cons_zero, List.getElem?_cons_succ]; rfl
    case hf_21 => kernel_rfl
    case hQ_21 => exact fun _ _ _ h => h
    case hy_21 =>
      refine Or.inl ⟨by rfl, ?_⟩
      intro W hSw
      obtain ⟨q0, q1, q2, q3, q4, q5, q6⟩ := hSw
      go_simp
      try with_reducible rfl
    try simp only [Act.put, List.setIfInBounds_toArray, List.set_cons_zero, List.set_cons_succ]
    refine wpAnyH_take (i := 21) (oi := ?oi_22) (v := ?_) ?hi_22 (by kernel_rfl) ?hf_22 (by kernel_rfl) ?hQ_22 ?hy_22 (by assumption) ?_
    case hi_22 => simp only [List.getElem?_toArray, List.getElem?_cons_zero, List.getElem?_cons_succ]; rfl
    case hf_22 => kernel_rfl
    case hQ_22 => exact fun _ _ _ h => h
    case hy_22 =>
      refine Or.inl ⟨by rfl, ?_⟩
      intro W hSw
      obtain ⟨q0, q1, q2, q3, q4, q5, q6⟩ := hSw
      go_simp
      try with_reducible rfl
    try simp only [Act.put, List.setIfInBounds_toArray, List.set_cons_zero, List.set_cons_succ]
    refine wpAnyH_take (i := 22) (oi := ?oi_23) (v := ?_) ?hi_23 (by kernel_rfl) ?hf_23 (by kernel_rfl) ?hQ_23 ?hy_23 (by assumption) ?_
    case hi_23 => simp only [List.getElem?_toArray, List.getElem?_cons_zero, List.getElem?_cons_succ]; rfl
    case hf_23 => kernel_rfl
    case hQ_23 => exact fun _ _ _ h => h
    case hy_23 =>
      refine Or.inl ⟨by rfl, ?_⟩
      intro W hSw
      obtain ⟨q0, q1, q2, q3, q4, q5, q6⟩ := hSw
      go_simp
      try with_reducible rfl
    try simp only [Act.put, List.setIfInBounds_toArray, List.set_cons_zero, List.set_cons_succ]
    refine wpAnyH_done (by kernel_rfl) ?_ _
    clear hHeld hK2 x0 x1 x2 x3 x4 x5 x6
    refine wpIn_seq ?_
    refine wpIn_seq ?_
    refine region_in_list (ndf_of (by kernel_rfl)) (by rintro ⟨_, _, h⟩; exact absurd h.1 (by intro h; cases h)) ?_
    go_wp2
    refine wpIn_cond_false rfl ?_
    refine wpIn_skip ?_
    simp only [Exit.then]
    refine region_in_list (ndf_of (by kernel_rfl)) (by rintro ⟨_, _, h⟩; exact absurd h.1 (by intro h; cases h)) ?_
    have hbxo := HBX.out
    have hkx : ∀ q, (X q ∨ (w.heap.size ≤ q ∧ q < s + 6)) → q < W.heap.size → w7.heap[q]? = W.heap[q]? := fun q h1 h2 => (KX.fr HK7.out).block q h2 (fun h3 => h3.2 (by
      rcases h1 with h1 | h1
      · exact .inl (.inl h1)
      · exact .inl (.inr ⟨h1.1, h1.2, by omega⟩)))
    have hb8 : Blk w7 s 34 #[.slice (some ⟨w.heap.size + 3, 0, none⟩) fr n] := (hkx s (.inr ⟨by omega, by omega⟩) (by omega)).trans HI'.out.b8
    have d8 : w7.cell? ⟨s, 0, none⟩ = some (.slice (some ⟨w.heap.size + 3, 0, none⟩) fr n) := hb8.cell 0
    have y8 := hb8.frozen 0
    have HO7 : Hid (w7.ownsRow w.heap.size 5 1 (.slice (some ⟨w.heap.size + 3, 0, none⟩) fr n) fr ((mbs C num sz place fr).map U8)) := Lib.hid (own_fr5 HI'.out.ow (KX.fr HK7.out) (fun q hq e => by
      simp [Value.ownBlock] at e
      exact hq.2 (.inl (.inr ⟨by omega, by omega, by omega⟩))))
    have hsrc : ∀ j u, ((((C (num, q)).drop r).take (t - fr)).map U8)[j]? = some u → w7.cell? ((⟨g2, 0, none⟩ : Addr).add j) = some u := fun j u hu => by
      have hy := HY7.out
      have hj : j < t - fr := by
        have := (List.getElem?_eq_some_iff.1 hu).1
        rw [List.length_map, hy.1] at this; exact this
      obtain ⟨b, off, e, _, hcl⟩ := hy.2.2.2.2 (by omega)
      injection e with e
      injection e with e1 e2 _
      subst e1 e2
      rw [addr_add, hcl j hj]
      rw [map_getD _ j (by rw [hy.1]; exact hj)] at hu
      exact hu
    have HHB8 := Lib.hid hb8
    have HKX := Lib.hid hkx
    clear hb8 hkx hbxo
    go_wp2_with (at_builtin
                 go_loud (refine wpList_append_fits _ rfl (.tmp 43) (.tmp 44) 34 rfl w.heap.size 5 i0 1 Try.underlying34 hi hz1 (w.heap.size + 3) fr n ((mbs C num sz place fr).map U8) rfl HO7.out ⟨g2, 0, none⟩ (t - fr) (t - fr) ((((C (num, q)).drop r).take (t - fr)).map U8) rfl (by rw [List.length_map, HY7.out.1, Nat.mul_one]) hsrc (by intro u hu; rw [List.mem_map] at hu; obtain ⟨x, _, rfl⟩ := hu; rfl) (by omega) ?_)
                 intro w9 hown9 hgr9
                 have HO9 := Lib.hid hown9
                 have HG9 := Lib.hid hgr9
                 have hb9 : Blk w9 s 34 #[.slice (some ⟨w.heap.size + 3, 0, none⟩) fr n] := HHB8.out.fr (Fr.grown hgr9) (by omega)
                 have d9 : w9.cell? ⟨s, 0, none⟩ = some (.slice (some ⟨w.heap.size + 3, 0, none⟩) fr n) := hb9.cell 0
                 have y9 := hb9.frozen 0
                 have HB9 := Lib.hid hb9
                 clear hown9 hgr9 hb9)
    have hft : fr + (t - fr) = t := by omega
    have hbxo := HBX.out
    have hFn : Fr (fun q => q = s) w9 (w9.setCell ⟨s, 0, none⟩ (.slice (some ⟨w.heap.size + 3, 0, none⟩) (fr + (t - fr)) n)) := (Fr.refl (fun q => q = s) w9).set_ (p := ⟨s, 0, none⟩) rfl _
    have hbn := HB9.out.set_ 0 (.slice (some ⟨w.heap.size + 3, 0, none⟩) (fr + (t - fr)) n)
    obtain ⟨Wn, hWn⟩ : ∃ Wn, Wn = w9.setCell ⟨s, 0, none⟩ (.slice (some ⟨w.heap.size + 3, 0, none⟩) (fr + (t - fr)) n) := ⟨_, rfl⟩
    rw [← hWn] at hFn hbn ⊢
    have hF9 := Fr.grown HG9.out
    have hs7 : W.heap.size ≤ w7.heap.size := (KX.fr HK7.out).size
    have hsn : w7.heap.size ≤ Wn.heap.size := Nat.le_trans hF9.size hFn.size
    have hkn : ∀ q, (X q ∨ (w.heap.size ≤ q ∧ q < s + 6)) → q < W.heap.size → q ≠ s → q ≠ w.heap.size + 3 → Wn.heap[q]? = W.heap[q]? := fun q h1 h2 h3 h4 =>
      (hFn.block q (by have := hF9.size; omega) (fun e => h3 e)).trans ((hF9.block q (by omega) (fun e => h4 e)).trans (HKX.out q h1 h2))
    have hXW : ∀ q, X q → q < w.heap.size := fun q hq => (H.out.xs q hq).2
    obtain ⟨hq_, hr_⟩ := HQ.out
    have hpb := part_bytes C num sz place n fr HCl.out hfr (by omega)
    rw [← HT.out, ← hq_, ← hr_] at hpb
    refine ⟨trivial, ?_, ⟨hkn _ (.inr ⟨by omega, by omega⟩) (by omega) (by omega) (by omega), hkn _ (.inr ⟨by omega, by omega⟩) (by omega) (by omega) (by omega), hkn _ (.inr ⟨by omega, by omega⟩) (by omega) (by omega) (by omega)⟩, by omega⟩
    · rw [← HT.out]
      have hI := HI'.out
      refine ⟨⟨c + 1, HCn.out, (HS7.out.ext ((hF9.more (T := fun q => q = w.heap.size + 3 ∨ q = s) (fun q hq => .inl hq)).trans (hFn.more (fun q hq => .inr hq))) (fun q hq => ?_) (fun q hq => ?_)).more (Nat.le_refl _) (by omega)⟩, n2, ?_, ?_, ?_, ?_, ?_, ?_, ?_, ?_, ?_, by omega⟩
      · rcases hq with e | e
        · exact .inl (.inl (.inr ⟨by omega, by omega, by omega⟩))
        · exact .inl (.inl (.inr ⟨by omega, by omega, by omega⟩))
      · rcases hq with e | ⟨e1, e2, _⟩
        · exact .inl (.inl (.inl e))
        · exact .inl (.inl (.inr ⟨e1, e2, by omega⟩))
      · exact (hkn _ (.inr ⟨by omega, by omega⟩) (by omega) (by omega) (by omega)).trans hI.b3
      · exact (hkn _ (.inr ⟨by omega, by omega⟩) (by omega) (by omega) (by omega)).trans hI.b6
      · exact (hkn _ (.inr ⟨by omega, by omega⟩) (by omega) (by omega) (by omega)).trans hI.b7
      · rw [hft] at hbn; exact hbn
      · have h9 := HO9.out
        rw [hft, ← List.map_append, ← hpb] at h9
        exact own_fr5 h9 hFn (fun q hq e => by simp [Value.ownBlock] at e; omega)
      · exact (hkn _ (.inr ⟨by omega, by omega⟩) (by omega) (by omega) (by omega)).trans hI.bm
      · exact (hkn _ (.inr ⟨by omega, by omega⟩) (by omega) (by omega) (by omega)).trans hI.bn
      · exact (hkn M (.inl hX) (by omega) (by omega) (by omega)).trans hI.mm
      · have h17 : Fr (fun q => w0.heap.size ≤ q ∧ ¬ X q) w w7 := Fr.trans hI.kx ((KX.fr HK7.out).more (fun q hq => ⟨hq.1, fun hx => hq.2 (.inl (.inl hx))⟩))
        exact (h17.trans_new hF9 (fun q hq => .inr (by omega))).trans_new hFn (fun q hq => .inr (by omega))
  case done =>
    intro W hI hD hsz'
    have d8 := hI.b8.cell 0
    have d6 := hI.b6.cell 0
    have z6 := hI.b6.frozen 0
    have d7 := hI.b7.cell 0
    have z7 := hI.b7.frozen 0
    simp only [Exit.inBlock, Exit.then]
    go_wp2
    have hs4 : w3.heap.size = s + 4 := hW3s
    have hF5 : Fr (fun q => q = w.heap.size + 1 ∨ q = w.heap.size + 2) W ((W.setCell ⟨w.heap.size + 1, 0, none⟩ (.slice (some ⟨w.heap.size + 3, 0, none⟩) n n)).setCell ⟨w.heap.size + 1 + 1, 0, none⟩ (.int .i64 0)) := ((Fr.refl _ W).set_ (p := ⟨w.heap.size + 1, 0, none⟩) (.inl rfl) _).set_ (p := ⟨w.heap.size + 1 + 1, 0, none⟩) (.inr rfl) _
    have hb6 : Blk ((W.setCell ⟨w.heap.size + 1, 0, none⟩ (.slice (some ⟨w.heap.size + 3, 0, none⟩) n n)).setCell ⟨w.heap.size + 1 + 1, 0, none⟩ (.int .i64 0)) (w.heap.size + 1) 34 #[.slice (some ⟨w.heap.size + 3, 0, none⟩) n n] := (hI.b6.set_ 0 _).far (p := ⟨w.heap.size + 1 + 1, 0, none⟩) (by show w.heap.size + 1 ≠ w.heap.size + 1 + 1; omega) _
    have hb7 : Blk ((W.setCell ⟨w.heap.size + 1, 0, none⟩ (.slice (some ⟨w.heap.size + 3, 0, none⟩) n n)).setCell ⟨w.heap.size + 1 + 1, 0, none⟩ (.int .i64 0)) (w.heap.size + 2) 25 #[.int .i64 0] := (hI.b7.far (p := ⟨w.heap.size + 1, 0, none⟩) (by show w.heap.size + 2 ≠ w.heap.size + 1; omega) _).set_ 0 _
    obtain ⟨W5, hW5⟩ : ∃ W5, W5 = ((W.setCell ⟨w.heap.size + 1, 0, none⟩ (.slice (some ⟨w.heap.size + 3, 0, none⟩) n n)).setCell ⟨w.heap.size + 1 + 1, 0, none⟩ (.int .i64 0)) := ⟨_, rfl⟩
    rw [← hW5] at hF5 hb6 hb7 ⊢
    rw [hs4] at hD hsz'
    have hK5 : W5.heap[s + 4]? = some (.deferred (some [])) := (hF5.block _ (by omega) (by omega)).trans hD
    refine ⟨by simp, .inl ⟨_, _, rfl, run_takeDeferred hK5, ?_⟩⟩
    have hF6 : Fr (fun q => q = s + 4) W5 (W5.putObj (s + 4) (.deferred none)) := (Fr.refl _ W5).putObj _ rfl
    have hc6 := (hb6.fr hF6 (by omega)).cell 0
    have hc7 := (hb7.fr hF6 (by omega)).cell 0
    have hF := (hF5.more (T := fun q => q = w.heap.size + 1 ∨ q = w.heap.size + 2 ∨ q = s + 4) (fun q hq => by omega)).trans (hF6.more (fun q hq => by omega))
    obtain ⟨W6, hW6⟩ : ∃ W6, W6 = W5.putObj (s + 4) (.deferred none) := ⟨_, rfl⟩
    rw [← hW6] at hc6 hc7 hF ⊢
    have hres : Try.f49.results = #[.cell 6 34, .cell 7 25] := rfl
    refine ⟨.tuple #[.slice (some ⟨w.heap.size + 3, 0, none⟩) n n, .int .i64 0], ?_, ?_⟩
    · have hc7' : W6.cell? ⟨w.heap.size + 1 + 1, 0, none⟩ = some (.int .i64 0) := hc7
      have hc6' : W6.cell? ⟨w.heap.size + 1, 0, none⟩ = some (.slice (some ⟨w.heap.size + 3, 0, none⟩) n n) := hc6
      simp [results, hres, go_sem, hc6', hc7']
    · obtain ⟨c, hc, hS⟩ := hI.ex
      refine ⟨w.heap.size + 3, rfl, by omega, ?_, ?_, ?_⟩
      · have hown := own_fr5 hI.ow hF (fun q hq e => by simp [Value.ownBlock] at e; omega)
        rcases Nat.eq_zero_or_pos n with h0 | h0
        · refine ⟨mbs_len _ _ _ _ _, fun x hx => ?_, Nat.le_refl _, by unfold maxLen; omega, fun q => by omega⟩
          rw [h0] at hx
          simp [mbs] at hx
        · rcases hown.2 with ⟨e, _⟩ | ⟨g, cp, cur, e, _, hg, _, h2, h3, h4⟩
          · cases e
          · injection e with e _ e2
            injection e with e
            injection e with e _ _
            subst e
            have hbk : Blk W6 (w.heap.size + 3) 5 cur := hg
            have hC8 : ∀ x, (C x).length = sz ∧ ∀ y ∈ C x, y < 256 := fun x => by
              obtain ⟨d, ad, W_, g1, g2, g3, g4, _⟩ := hS.ex
              rw [← g4]; exact g1.pi.len x
            refine ⟨mbs_len _ _ _ _ _, fun x hx => ?_, Nat.le_refl _, by unfold maxLen; omega, fun _ => ⟨_, 0, rfl, hbk.lt, fun j hj => ?_⟩⟩
            · unfold mbs at hx
              rw [List.mem_map] at hx
              obtain ⟨i, _, rfl⟩ := hx
              unfold mby
              rw [List.getD_eq_getElem?_getD]
              cases hq : (C (num, (place + i) / sz))[(place + i) % sz]? with
              | none => show 0 < 256; decide
              | some y => exact (hC8 _).2 y (List.mem_of_getElem? hq)
            · rw [Nat.zero_add, hbk.cell]
              have h5 : ((mbs C num sz place n).map U8)[j]? = cur[j]? := by
                rw [← h4, List.getElem?_take_of_lt (by omega), Array.getElem?_toList]
              rw [← h5, map_getD _ j (by rw [mbs_len]; exact hj)]
              rfl
      · refine (hS.ext hF (fun q hq => ?_) (fun q hq => ?_)).more (Nat.le_refl _) (by have := hc.2.2; omega)
        · exact .inl (.inr ⟨by omega, by omega, by omega⟩)
        · rcases hq with q1 | q1
          · exact .inl (.inl q1)
          · exact .inl (.inr ⟨by omega, by omega, by omega⟩)
      · exact Fr.trans_new hI.kx hF (fun q hq => .inr (by omega))
end Go.Proofs.Ytlnffcledpccjaa
