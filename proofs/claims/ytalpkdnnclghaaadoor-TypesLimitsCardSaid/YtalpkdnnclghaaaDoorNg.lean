/-
  types.parse: the list itself.
-/
import Derived.Test.YtalpkdnnclghaaaDoorNf
namespace Go.Proofs.YtalpkdnnclghaaaDoor
open Go.RowKit Go.Shelf
set_option linter.unusedVariables false
attribute [local go_sem] Oper.semAt_some
/-- the types of a list's names, behind those that have come -/
def go : Nat → List Nat → List UInt8 → Option (List Nat)
  | 0, _, _ => none
  | f + 1, L, r => match tyB (pc r) with
    | none => none
    | some t => if L.length = 20 then none else match nx r with | none => some (L ++ [t]) | some r' => go f (L ++ [t]) r'
/-- before the rest x is read (none: nothing is left), of parse's blocks from b on: b, b + 1 results, b + 2 the list, b + 3 .. b + 7 the range's -/
structure QI (w : World) (tot : Option (List Nat)) (x : Option (List UInt8)) (W : World) : Prop where
  b0 : Blk W w.heap.size 24 #[.slice none 0 0]
  b1 : Blk W (w.heap.size + 1) 4 #[.bool false]
  li : ∃ v L, Blk W (w.heap.size + 2) 24 #[v] ∧ W.ownsRow (w.heap.size + 8) 51 1 v L.length (L.map U8) ∧ L.length ≤ 20 ∧
    (match x with | none => tot = some L | some r => ∃ f, r.length < f ∧ go f L r = tot)
  fr : Below w.heap.size w W
theorem own_frD {S : Nat → Prop} {W W' : World} {B E : Nat} {v : Value} {n : Nat} {xs : List Value} (h : W.ownsRow B E 1 v n xs) (hf : Fr S W W') (hne : ∀ q, S q → v.ownBlock ≠ some q) : W'.ownsRow B E 1 v n xs := by
  refine ⟨h.1, ?_⟩
  rcases h.2 with h2 | ⟨g, cap, cur, e, hB, hg, rest⟩
  · exact .inl h2
  · exact .inr ⟨g, cap, cur, e, hB, hf.keep hg (fun hs => hne g hs (by rw [e]; rfl)), rest⟩
theorem own_from {W : World} {B E : Nat} {v : Value} {n q : Nat} {xs : List Value} (h : W.ownsRow B E 1 v n xs) (e : v.ownBlock = some q) : B ≤ q := by
  rcases h.2 with ⟨e2, _⟩ | ⟨g, cap, cur, e2, hB, _⟩
  · rw [e2] at e; cases e
  · rw [e2] at e; cases e; exact hB
theorem frG {W W3 : World} {row : Option Nat} {B : Nat} (o : Obj) (h : (W.alloc o).grownBy W3 row) (hr : ∀ q, row = some q → B ≤ q) : Fr (fun q => B ≤ q) W W3 :=
  ((Fr.refl _ W).alloc o).trans ⟨h.os, h.tape, h.output, h.size, fun i hi hs => h.block i hi (fun e => hs (hr i e.symm))⟩
theorem own_less {W : World} {B B' E : Nat} {v : Value} {n : Nat} {xs : List Value} (h : W.ownsRow B E 1 v n xs) (hB : B' ≤ B) : W.ownsRow B' E 1 v n xs := by
  refine ⟨h.1, ?_⟩
  rcases h.2 with h2 | ⟨g, cap, cur, e, h3, rest⟩
  · exact .inl h2
  · exact .inr ⟨g, cap, cur, e, Nat.le_trans hB h3, rest⟩
theorem QI.st {w W W' : World} {tot : Option (List Nat)} {x : Option (List UInt8)} (h : QI w tot x W) (hf : Fr (XS (w.heap.size + 3)) W W') : QI w tot x W' := by
  obtain ⟨v, L, h2, ho, h21, hx⟩ := h.li
  exact ⟨h.b0.fr hf (fun q => by have := q.1; omega), h.b1.fr hf (fun q => by have := q.1; omega),
    ⟨v, L, h2.fr hf (fun q => by have := q.1; omega), own_frD ho hf (fun q hs e => by have := own_from ho e; have := hs.2; omega), h21, hx⟩,
    hf.below h.fr h.fr.size (fun k hk => by have := hk.1; omega)⟩
theorem QI.leave {w W : World} {tot : Option (List Nat)} {x : Option (List UInt8)} {b : Nat} (hb : b = w.heap.size) (h : QI w tot x W) (hn : tot = none) :
    (Blk ((W.setCell ⟨b, 0, none⟩ (.slice none 0 0)).setCell ⟨b + 1, 0, none⟩ (.bool false)) w.heap.size 24 #[.slice none 0 0] ∧
      Blk ((W.setCell ⟨b, 0, none⟩ (.slice none 0 0)).setCell ⟨b + 1, 0, none⟩ (.bool false)) (w.heap.size + 1) 4 #[.bool false] ∧ tot = none ∧
      Below w.heap.size w ((W.setCell ⟨b, 0, none⟩ (.slice none 0 0)).setCell ⟨b + 1, 0, none⟩ (.bool false))) ∧
    (∀ q, XS (b + 3) q → ((W.setCell ⟨b, 0, none⟩ (.slice none 0 0)).setCell ⟨b + 1, 0, none⟩ (.bool false)).heap[q]? = W.heap[q]?) := by
  subst hb
  have hF : Fr (fun q => q = w.heap.size ∨ q = w.heap.size + 1) W ((W.setCell ⟨w.heap.size, 0, none⟩ (.slice none 0 0)).setCell ⟨w.heap.size + 1, 0, none⟩ (.bool false)) := ((Fr.refl _ W).set_ (p := ⟨w.heap.size, 0, none⟩) (.inl rfl) _).set_ (p := ⟨w.heap.size + 1, 0, none⟩) (.inr rfl) _
  refine ⟨⟨(h.b0.set_ 0 _).far (p := ⟨w.heap.size + 1, 0, none⟩) (by show w.heap.size ≠ w.heap.size + 1; omega) _, (h.b1.far (p := ⟨w.heap.size, 0, none⟩) (by show w.heap.size + 1 ≠ w.heap.size; omega) _).set_ 0 _, hn, hF.below h.fr h.fr.size (fun k hk => by omega)⟩, fun q hq => ?_⟩
  rw [Below.heap_setCell _ _ _ _ (by show q ≠ w.heap.size + 1; have := hq.1; omega), Below.heap_setCell _ _ _ _ (by show q ≠ w.heap.size; have := hq.1; omega)]
theorem QI.next {w W W3 : World} {tot : Option (List Nat)} {r : List UInt8} {b t : Nat} {L : List Nat} {v v1 : Value} (hb : b = w.heap.size) (h : QI w tot (some r) W) (hW : b + 8 ≤ W.heap.size) (hF : Fr (fun q => w.heap.size + 8 ≤ q) W W3)
    (hv : Blk W3 (b + 2) 24 #[v]) (hown : W3.ownsRow (w.heap.size + 8) 51 1 v1 (L.length + 1) (L.map U8 ++ [U8 t])) (hL : L.length < 20)
    (hx : match nx r with | none => tot = some (L ++ [t]) | some r' => ∃ f, r'.length < f ∧ go f (L ++ [t]) r' = tot) :
    QI w tot (nx r) (W3.setCell ⟨b + 1 + 1, 0, none⟩ v1) ∧ (∀ q, XS (b + 3) q → (W3.setCell ⟨b + 1 + 1, 0, none⟩ v1).heap[q]? = W.heap[q]?) ∧ W.heap.size ≤ (W3.setCell ⟨b + 1 + 1, 0, none⟩ v1).heap.size := by
  subst hb
  have hS : Fr (fun q => q = w.heap.size + 2) W3 (W3.setCell ⟨w.heap.size + 1 + 1, 0, none⟩ v1) := (Fr.refl (fun q => q = w.heap.size + 2) W3).set_ (p := ⟨w.heap.size + 1 + 1, 0, none⟩) rfl _
  have hFS : Fr (fun q => w.heap.size ≤ q) W (W3.setCell ⟨w.heap.size + 1 + 1, 0, none⟩ v1) := (hF.more (fun q hq => by omega)).trans (hS.more (fun q hq => by omega))
  refine ⟨⟨(h.b0.fr hF (by omega)).fr hS (by omega), (h.b1.fr hF (by omega)).fr hS (by omega), ⟨v1, L ++ [t], hv.set_ 0 v1, ?_, by simp; omega, by revert hx; cases nx r <;> exact id⟩, hFS.below h.fr h.fr.size (fun k hk => hk)⟩, fun q hq => ?_, hFS.size⟩
  · rw [List.length_append, List.length_singleton, List.map_append]
    exact own_frD hown hS (fun q hq e => by have := own_from hown e; omega)
  · have h1 := hq.1
    have h2 := hq.2
    exact (hS.block q (by have := hF.size; omega) (by omega)).trans (hF.block q (by omega) (by omega))
set_option maxHeartbeats 2000000 in
set_option maxRecDepth 100000 in
theorem parse_list (s s1 s2 : List UInt8) (hs : s2 ≠ []) (hlen : s2.length ≤ 4611686018427387904)
    (h1 : ∀ W, Calls Tryd.prog 59 #[.string ⟨s.toArray⟩, .string ⟨#[40]⟩] W fun e w' => e = .returned (.tuple #[.string ⟨s1.toArray⟩, .bool true]) ∧ w' = W)
    (h2 : ∀ W, Calls Tryd.prog 53 #[.string ⟨s1.toArray⟩, .string ⟨#[41]⟩] W fun e w' => e = .returned (.tuple #[.string ⟨s2.toArray⟩, .bool true]) ∧ w' = W)
    (w : World) : Calls Tryd.prog 45 #[.string ⟨s.toArray⟩] w (PrP (go (s2.length + 1) [] s2) w) := by
  obtain ⟨i0, hi, hz0, hz1, hz2⟩ := info_parts info51
  have H1 := Lib.hid h1
  have H2 := Lib.hid h2
  clear h1 h2
  have hne : s2.isEmpty = false := by
    cases s2 with
    | nil => exact absurd rfl hs
    | cons a l => rfl
  refine callsIn_wide.1 (callsIn_of_wp_marks (n := 3) Tryd.func45 rfl trivial (wpIn_wide.2 ?_))
  simp only [Tryd.ntmps45, List.size_toArray, List.length_cons, List.length_nil, Nat.reduceAdd, Nat.reduceSub, Array.replicate_succ, Array.replicate_zero, List.push_toArray, List.append_toArray, List.nil_append, List.cons_append]
  go_wp2_with (first | (go_at_call 59; with_reducible refine (H1.out _).mono ?_; rintro e w1 ⟨rfl, rfl⟩) | (go_at_call 53; with_reducible refine (H2.out _).mono ?_; rintro e w1 ⟨rfl, rfl⟩) | (go_at_call 63; with_reducible refine (SplitSeq_ok s2 _).mono ?_; rintro e w1 ⟨rfl, hw1⟩; have HW1 := Lib.hid hw1; clear hw1))
  have hw1 := HW1.out
  obtain ⟨b, hb⟩ : ∃ b, b = w.heap.size := ⟨_, rfl⟩
  obtain ⟨wa, hwa⟩ : ∃ wa, wa = ((w.alloc (Obj.cells #[Value.slice none 0 0] 24)).alloc (Obj.cells #[Value.bool false] 4)).alloc (Obj.cells #[Value.slice none 0 0] 24) := ⟨_, rfl⟩
  rw [← hwa] at hw1
  have hsa : wa.heap.size = b + 3 := by rw [hwa, hb]; simp
  have hfa : Below w.heap.size w wa := by rw [hwa]; exact ((((Below.refl _ w).alloc (Nat.le_refl _) _).alloc (by simp) _).alloc (by simp; omega) _)
  have ha0 : Blk wa b 24 #[.slice none 0 0] := by rw [hwa, hb]; exact ((Blk.new w 24 _).alloc _).alloc _
  have ha1 : Blk wa (b + 1) 4 #[.bool false] := by
    have h := (Blk.new (w.alloc (Obj.cells #[Value.slice none 0 0] 24)) 4 #[.bool false]).alloc (Obj.cells #[Value.slice none 0 0] 24)
    rw [World.size_alloc, ← hb, ← hwa] at h; exact h
  have ha2 : Blk wa (b + 2) 24 #[.slice none 0 0] := by
    have h := Blk.new ((w.alloc (Obj.cells #[Value.slice none 0 0] 24)).alloc (Obj.cells #[Value.bool false] 4)) 24 #[.slice none 0 0]
    rw [World.size_alloc, World.size_alloc, ← hb, ← hwa] at h; exact h
  clear hwa
  unfold seqW at hw1
  have hs1 : w1.heap.size = b + 6 := by rw [hw1]; simp [hsa]
  have hc0 : Blk w1 (b + 3) 9 #[.string ⟨s2.toArray⟩] := by
    rw [hw1, ← hsa]; exact ((Blk.new wa 9 _).alloc _).alloc _
  have hc1 : Blk w1 (b + 4) 9 #[.string ⟨#[44]⟩] := by
    have h := (Blk.new (wa.alloc (Obj.cells #[Value.string ⟨s2.toArray⟩] 9)) 9 #[.string ⟨#[44]⟩]).alloc (Obj.cells #[.int .i64 0] 3)
    rw [World.size_alloc, hsa, ← hw1] at h; exact h
  have hc2 : Blk w1 (b + 5) 3 #[.int .i64 0] := by
    have h := Blk.new ((wa.alloc (Obj.cells #[Value.string ⟨s2.toArray⟩] 9)).alloc (Obj.cells #[.string ⟨#[44]⟩] 9)) 3 #[.int .i64 0]
    rw [World.size_alloc, World.size_alloc, hsa, ← hw1] at h; exact h
  have hf1 : Fr (fun _ => False) wa w1 := by rw [hw1]; exact (((Fr.refl _ wa).alloc _).alloc _).alloc _
  have hQ0 : QI w (go (s2.length + 1) [] s2) (some s2) w1 := by
    refine ⟨hb ▸ ha0.fr hf1 (fun q => q), hb ▸ ha1.fr hf1 (fun q => q), ⟨.slice none 0 0, [], hb ▸ ha2.fr hf1 (fun q => q), World.ownsRow_nil _ _ _ _, by simp, ⟨s2.length + 1, by omega, rfl⟩⟩, hf1.below hfa (by rw [hsa, hb]; omega) (fun k hk => hk.elim)⟩
  have HQ0 := Lib.hid hQ0
  clear hQ0 hw1 hf1 ha0 ha1 ha2 hsa hfa HW1
  rw [← hb]
  have HBB := Lib.hid hb
  clear hb
  refine wpIn_wide.1 (split_range (m := 1) 3 (b + 3) s2 rfl hlen rfl rfl hs1 (QI w (go (s2.length + 1) [] s2))
    (fun W => Blk W w.heap.size 24 #[.slice none 0 0] ∧ Blk W (w.heap.size + 1) 4 #[.bool false] ∧ go (s2.length + 1) [] s2 = none ∧ Below w.heap.size w W)
    (fun p => {
      tmps :=
        #[Value.string { data := s2.toArray }, undef, Value.pointer (some { block := b, off := 0 }),
          Value.pointer (some { block := b + 1, off := 0 }), Value.bool true, Value.bool true,
          Value.pointer (some { block := b + 1 + 1, off := 0 }), Value.string p, undef, undef,
          Value.tuple #[Value.string { data := s1.toArray }, Value.bool true], Value.string { data := s.toArray },
          Value.tuple #[Value.string { data := s1.toArray }, Value.bool true], Value.string { data := s1.toArray },
          Value.bool true, Value.tuple #[Value.string { data := s2.toArray }, Value.bool true],
          Value.string { data := s1.toArray }, Value.tuple #[Value.string { data := s2.toArray }, Value.bool true],
          Value.string { data := s2.toArray }, Value.bool true, Value.bool true, Value.bool false, Value.bool false,
          Value.bool true, Value.bool false, Value.bool false, Value.string { data := s2.toArray }, Value.bool false,
          Value.string { data := s2.toArray }, seqV (b + 1 + 1 + 1), Value.string p, undef, undef, undef, undef, undef,
          undef, undef, undef, undef, undef, undef, undef, undef, undef, undef, undef, undef],
      defers := [] })
    ?hst ?hsX HQ0.out hc0 hc1 hc2 ?assign ?body ?done ?stop)
  case hst => exact fun x W W' hI hf => hI.st (HBB.out ▸ hf)
  case hsX =>
    rintro W W' ⟨x0, x1, x2, x3⟩ hf
    rw [HBB.out] at hf
    exact ⟨x0.fr hf (fun q => by have := q.1; omega), x1.fr hf (fun q => by have := q.1; omega), x2, hf.below x3 x3.size (fun k hk => by have := hk.1; omega)⟩
  case assign =>
    intro p W K hK
    gi_wp2
    exact hK
  case body =>
    intro r W hI hW
    have HI := Lib.hid hI
    have HW := Lib.hid hW
    obtain ⟨v, L, h2, ho, h21, f, hf, hgo⟩ := hI.li
    obtain ⟨f, rfl⟩ : ∃ f', f = f' + 1 := ⟨f - 1, by omega⟩
    have HGO := Lib.hid hgo
    have hb := HBB.out
    rw [← hb] at h2
    have d6 : W.cell? ⟨b + 1 + 1, 0, none⟩ = some v := h2.cell 0
    have z6 : W.frozen? ⟨b + 1 + 1, 0, none⟩ = false := h2.frozen 0
    have e0 : W.cell? ⟨b, 0, none⟩ = some (.slice none 0 0) := by rw [hb]; exact hI.b0.cell 0
    have e1 : W.cell? ⟨b + 1, 0, none⟩ = some (.bool false) := by rw [hb]; exact hI.b1.cell 0
    have y0 : W.frozen? ⟨b, 0, none⟩ = false := by rw [hb]; exact hI.b0.frozen 0
    have y1 : W.frozen? ⟨b + 1, 0, none⟩ = false := by rw [hb]; exact hI.b1.frozen 0
    have HO := Lib.hid ho
    have HB2 := Lib.hid h2
    clear hI hgo ho hW h2 hb
    obtain ⟨p, hp⟩ : ∃ p, p = pc r := ⟨_, rfl⟩
    rw [← hp]
    have HP := Lib.hid hp
    clear hp
    cases ht : tyB p with
    | none =>
      have hcall := named_ok p
      rw [ht] at hcall
      have HC := Lib.hid hcall
      clear hcall
      gi_wp2_with (refine ⟨trivial, ?_⟩; gi_at_call 64; refine ((callsIn_wide.2 (HC.out _)).inRound _).mono ?_; rintro e w2 ⟨rfl, rfl⟩)
      have hl := HI.out.leave HBB.out (by
        rw [← HGO.out]
        simp only [go, ← HP.out, ht])
      exact hl
    | some t =>
      have hcall := named_ok p
      rw [ht] at hcall
      have HC := Lib.hid hcall
      have HT := Lib.hid ht
      clear hcall ht
      by_cases h20 : L.length = 20
      · obtain ⟨g, c, rfl⟩ : ∃ g c, v = .slice (some ⟨g, 0, none⟩) 20 c := by
          rcases HO.out.2 with ⟨_, e⟩ | ⟨g, cap, cur, e, _⟩
          · omega
          · exact ⟨g, cap, by rw [e, h20]⟩
        gi_wp2_with (refine ⟨trivial, ?_⟩; gi_at_call 64; refine ((callsIn_wide.2 (HC.out _)).inRound _).mono ?_; rintro e w2 ⟨rfl, rfl⟩)
        have hl := HI.out.leave HBB.out (by
          rw [← HGO.out]
          simp only [go, ← HP.out, HT.out, h20, if_true])
        exact hl
      · have hL := HO.out
        have h20' : ((L.length : Int) == 20) = false := by rw [beq_eq_false_iff_ne]; omega
        have hX : match nx r with | none => go (s2.length + 1) [] s2 = some (L ++ [t]) | some r' => ∃ f, r'.length < f ∧ go f (L ++ [t]) r' = go (s2.length + 1) [] s2 := by
          have hg := HGO.out
          simp only [go, ← HP.out, HT.out, h20, if_false] at hg
          cases hn : nx r with
          | none => rw [hn] at hg; exact hg.symm
          | some r' =>
            rw [hn] at hg
            refine ⟨f, ?_, hg⟩
            unfold nx at hn
            split at hn
            · cases hn
              have := ib_range 44 r
              have e : cm r = Lib.indexByte r 44 := rfl
              rw [List.length_drop]; omega
            · cases hn
        have HX := Lib.hid hX
        clear hX
        rcases hL.2 with ⟨rfl, h0⟩ | ⟨g, cap, cur, rfl, _⟩
        · clear hL h0
          gi_wp2_with (first
            | (refine ⟨trivial, ?_⟩; gi_at_call 64; refine ((callsIn_wide.2 (HC.out _)).inRound _).mono ?_; rintro e w2 ⟨rfl, rfl⟩)
            | (gi_at_builtin
               refine wpListIn_append_own _ rfl (.tmp 43) (.tmp 45) 24 rfl (w.heap.size + 8) 51 i0 _ 1 1 Tryd.underlying24 hi hz0 hz1 hz2 rfl (by decide) _ L.length _ rfl (HO.out.alloc _) ⟨W.heap.size, 0, none⟩ 1 1 [U8 t] rfl rfl (cell_new _ _ _) ?c2 ?c3 ?c4 ?c5 ?_
               case c2 => intro u hu; simp at hu; subst hu; rfl
               case c3 => unfold maxLen; omega
               case c4 => omega
               case c5 => have h1 := HW.out; have h2 := HBB.out; simp; omega
               intro v1 w3 hown1 hg1 _
               obtain ⟨g1, c1, rfl⟩ : ∃ g1 c1, v1 = .slice (some ⟨g1, 0, none⟩) (L.length + 1) c1 := by
                 rcases hown1.2 with ⟨_, e⟩ | ⟨g1, c1, _, e, _⟩
                 · exact absurd e (Nat.succ_ne_zero _)
                 · exact ⟨g1, c1, e⟩
               have hF3 := frG _ hg1 (fun q e => own_from HO.out e)
               have hb2 := HB2.out.fr hF3 (by have h2 := HBB.out; omega)
               have d6' : w3.cell? ⟨b + 1 + 1, 0, none⟩ = some (.slice none 0 0) := hb2.cell 0
               have z6' : w3.frozen? ⟨b + 1 + 1, 0, none⟩ = false := hb2.frozen 0
               have HOWN := Lib.hid hown1
               have HF3 := Lib.hid hF3
               have HBN := Lib.hid hb2
               clear hown1 hg1 hF3 hb2 d6 z6))
          have hh := HI.out.next HBB.out (by have h1 := HW.out; omega) HF3.out HBN.out HOWN.out (by omega) HX.out
          rw [World.size_setCell] at hh
          exact hh
        · clear hL
          gi_wp2_with (first
            | (refine ⟨trivial, ?_⟩; gi_at_call 64; refine ((callsIn_wide.2 (HC.out _)).inRound _).mono ?_; rintro e w2 ⟨rfl, rfl⟩)
            | (gi_at_builtin
               refine wpListIn_append_own _ rfl (.tmp 43) (.tmp 45) 24 rfl (w.heap.size + 8) 51 i0 _ 1 1 Tryd.underlying24 hi hz0 hz1 hz2 rfl (by decide) _ L.length _ rfl (HO.out.alloc _) ⟨W.heap.size, 0, none⟩ 1 1 [U8 t] rfl rfl (cell_new _ _ _) ?c2 ?c3 ?c4 ?c5 ?_
               case c2 => intro u hu; simp at hu; subst hu; rfl
               case c3 => unfold maxLen; omega
               case c4 => omega
               case c5 => have h1 := HW.out; have h2 := HBB.out; simp; omega
               intro v1 w3 hown1 hg1 _
               obtain ⟨g1, c1, rfl⟩ : ∃ g1 c1, v1 = .slice (some ⟨g1, 0, none⟩) (L.length + 1) c1 := by
                 rcases hown1.2 with ⟨_, e⟩ | ⟨g1, c1, _, e, _⟩
                 · exact absurd e (Nat.succ_ne_zero _)
                 · exact ⟨g1, c1, e⟩
               have hF3 := frG _ hg1 (fun q e => own_from HO.out e)
               have hb2 := HB2.out.fr hF3 (by have h2 := HBB.out; omega)
               have d6' : w3.cell? ⟨b + 1 + 1, 0, none⟩ = some (.slice (some ⟨g, 0, none⟩) L.length cap) := hb2.cell 0
               have z6' : w3.frozen? ⟨b + 1 + 1, 0, none⟩ = false := hb2.frozen 0
               have HOWN := Lib.hid hown1
               have HF3 := Lib.hid hF3
               have HBN := Lib.hid hb2
               clear hown1 hg1 hF3 hb2 d6 z6))
          have hh := HI.out.next HBB.out (by have h1 := HW.out; omega) HF3.out HBN.out HOWN.out (by omega) HX.out
          rw [World.size_setCell] at hh
          exact hh
  case done =>
    intro W hI hD hW
    obtain ⟨v, L, h2, ho, h21, ht⟩ := hI.li
    have hb := HBB.out
    rw [ht]
    obtain ⟨W5, hW5⟩ : ∃ W5, W5 = (W.setCell ⟨b, 0, none⟩ v).setCell ⟨b + 1, 0, none⟩ (.bool true) := ⟨_, rfl⟩
    have hF5 : Fr (fun q => q = b ∨ q = b + 1) W W5 := by rw [hW5]; exact ((Fr.refl (fun q => q = b ∨ q = b + 1) W).set_ (p := ⟨b, 0, none⟩) (.inl rfl) _).set_ (p := ⟨b + 1, 0, none⟩) (.inr rfl) _
    have hb0 : Blk W5 b 24 #[v] := by rw [hW5, hb]; exact (hI.b0.set_ 0 _).far (p := ⟨w.heap.size + 1, 0, none⟩) (by show w.heap.size ≠ w.heap.size + 1; omega) _
    have hb1 : Blk W5 (b + 1) 4 #[.bool true] := by rw [hW5, hb]; exact (hI.b1.far (p := ⟨w.heap.size, 0, none⟩) (by show w.heap.size + 1 ≠ w.heap.size; omega) _).set_ 0 _
    have hK5 : W5.heap[b + 6]? = some (.deferred (some [])) := (hF5.block _ (by omega) (by omega)).trans hD
    have hF6 : Fr (fun q => q = b + 6) W5 (W5.putObj (b + 6) (.deferred none)) := (Fr.refl _ W5).putObj _ rfl
    have hc0 := (hb0.fr hF6 (by omega)).cell 0
    have hc1 := (hb1.fr hF6 (by omega)).cell 0
    have ho6 := own_frD (own_frD ho hF5 (fun q hq e => by have := own_from ho e; omega)) hF6 (fun q hq e => by have := own_from ho e; omega)
    have hbl := (hF6.below (hF5.below hI.fr hI.fr.size (fun k hk => by omega)) (Nat.le_trans hI.fr.size hF5.size) (fun k hk => by omega))
    have e6 : W.cell? ⟨b + 1 + 1, 0, none⟩ = some v := by rw [hb]; exact h2.cell 0
    have e0 : W.cell? ⟨b, 0, none⟩ = some (.slice none 0 0) := by rw [hb]; exact hI.b0.cell 0
    have e1 : W.cell? ⟨b + 1, 0, none⟩ = some (.bool false) := by rw [hb]; exact hI.b1.cell 0
    have y0 : W.frozen? ⟨b, 0, none⟩ = false := by rw [hb]; exact hI.b0.frozen 0
    have y1 : W.frozen? ⟨b + 1, 0, none⟩ = false := by rw [hb]; exact hI.b1.frozen 0
    simp only [Exit.inBlock, Exit.then]
    have HH := Lib.hid (And.intro hW5 (And.intro hK5 (And.intro hc0 (And.intro hc1 (And.intro ho6 hbl)))))
    have HO := Lib.hid ho
    clear hW5 hF5 hb0 hb1 hK5 hF6 hc0 hc1 ho6 hbl h2 hI hD hW hb
    rcases HO.out.2 with ⟨rfl, h0⟩ | ⟨g, cap, cur, rfl, _⟩
    · go_wp2
      obtain ⟨hW5, hK5, hc0, hc1, ho6, hbl⟩ := HH.out
      rw [← hW5]
      refine ⟨by simp, .inl ⟨_, _, rfl, run_takeDeferred hK5, ?_⟩⟩
      clear hW5 hK5
      obtain ⟨W6, hW6⟩ : ∃ W6, W6 = W5.putObj (b + 6) (.deferred none) := ⟨_, rfl⟩
      rw [← hW6] at hc0 hc1 ho6 hbl ⊢
      have hc0' : W6.cell? ⟨b, 0, none⟩ = some (.slice none 0 0) := hc0
      have hc1' : W6.cell? ⟨b + 1, 0, none⟩ = some (.bool true) := hc1
      refine ⟨.tuple #[.slice none 0 0, .bool true], ?_, ?_⟩
      rotate_left
      · exact ⟨_, rfl, own_less ho6 (Nat.le_add_right _ _), hbl⟩
      · simp [results, go_sem, hc0', hc1']
    · go_wp2
      obtain ⟨hW5, hK5, hc0, hc1, ho6, hbl⟩ := HH.out
      rw [← hW5]
      refine ⟨by simp, .inl ⟨_, _, rfl, run_takeDeferred hK5, ?_⟩⟩
      clear hW5 hK5
      obtain ⟨W6, hW6⟩ : ∃ W6, W6 = W5.putObj (b + 6) (.deferred none) := ⟨_, rfl⟩
      rw [← hW6] at hc0 hc1 ho6 hbl ⊢
      have hc0' : W6.cell? ⟨b, 0, none⟩ = some (.slice (some ⟨g, 0, none⟩) L.length cap) := hc0
      have hc1' : W6.cell? ⟨b + 1, 0, none⟩ = some (.bool true) := hc1
      refine ⟨.tuple #[.slice (some ⟨g, 0, none⟩) L.length cap, .bool true], ?_, ?_⟩
      rotate_left
      · exact ⟨_, rfl, own_less ho6 (Nat.le_add_right _ _), hbl⟩
      · simp [results, go_sem, hc0', hc1']
  case stop =>
    rintro W ⟨x0, x1, x2, x3⟩ hD hW
    have hb := HBB.out
    rw [x2]
    refine wpIn_ret ?_
    simp only [Exit.inBlock, Exit.then]
    rw [← hb] at x0 x1
    refine ⟨by simp, .inl ⟨_, _, rfl, run_takeDeferred hD, ?_⟩⟩
    have hF6 : Fr (fun q => q = b + 6) W (W.putObj (b + 6) (.deferred none)) := (Fr.refl _ W).putObj _ rfl
    have hc0 : (W.putObj (b + 6) (.deferred none)).cell? ⟨b, 0, none⟩ = some (.slice none 0 0) := (x0.fr hF6 (by omega)).cell 0
    have hc1 : (W.putObj (b + 6) (.deferred none)).cell? ⟨b + 1, 0, none⟩ = some (.bool false) := (x1.fr hF6 (by omega)).cell 0
    refine ⟨.tuple #[.slice none 0 0, .bool false], ?_, ?_⟩
    · simp [results, go_sem, hc0, hc1]
    · exact ⟨_, rfl, World.ownsRow_nil _ _ _ _, hF6.below x3 x3.size (fun k hk => by omega)⟩
end Go.Proofs.YtalpkdnnclghaaaDoor
