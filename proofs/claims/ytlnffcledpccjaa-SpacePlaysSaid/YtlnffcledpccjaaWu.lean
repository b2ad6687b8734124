/-
  pager.Fault; the document's memory as told: what was written, in order; Byte.
-/
import Derived.Test.YtlnffcledpccjaaUm
namespace Go.Proofs.Ytlnffcledpccjaa
set_option linter.unusedVariables false
set_option linter.unusedSimpArgs false
open Go.ChangeShapes Go.WideShapes Go.ChangeAt
open Go.RowKit Go.Shelf
structure PutAt (w : World) (b off : Nat) (p : Nat × List Nat) : Prop where
  le : p.1 ≤ 18446744073709551615
  c0 : w.cell? ⟨b, off, none⟩ = some (.int .u64 p.1)
  ex : ∃ B cp, w.cell? ⟨b, off + 1, none⟩ = some (.slice B p.2.length cp) ∧ Byt w B p.2.length cp p.2
def Puts (w : World) (A : Option Addr) (n cap : Nat) (P : List (Nat × List Nat)) : Prop :=
  P.length = n ∧ n ≤ cap ∧ cap ≤ maxLen ∧ (0 < n → ∃ b, A = some ⟨b, 0, none⟩ ∧ ∀ i, i < n → PutAt w b (i * 2) (P.getD i (0, [])))
def pbr : List (Nat × List Nat) → Nat → Nat
  | [], _ => 0
  | p :: ps, a => if p.1 ≤ a ∧ a - p.1 < p.2.length then p.2.getD (a - p.1) 0 else pbr ps a
def pby (P : List (Nat × List Nat)) (a : Nat) : Nat := pbr P.reverse a
theorem pby_take {P : List (Nat × List Nat)} {i : Nat} (h : i < P.length) (a : Nat) : pby (P.take (i + 1)) a = if (P.getD i (0, [])).1 ≤ a ∧ a - (P.getD i (0, [])).1 < (P.getD i (0, [])).2.length then (P.getD i (0, [])).2.getD (a - (P.getD i (0, [])).1) 0 else pby (P.take i) a := by
  have e : P.getD i (0, []) = P[i] := by rw [List.getD_eq_getElem?_getD, List.getElem?_eq_getElem h]; rfl
  unfold pby
  rw [e, List.take_add_one, List.getElem?_eq_getElem h, Option.toList_some, List.reverse_append, List.reverse_cons, List.reverse_nil, List.nil_append, List.singleton_append, pbr]
theorem pby_nil (P : List (Nat × List Nat)) (a : Nat) : pby (P.take 0) a = 0 := rfl
theorem PutAt.fr {w w' : World} {b off : Nat} {p : Nat × List Nat} (h : PutAt w b off p) (hb : w'.heap.size = w'.heap.size) (hf : Fr (fun _ => False) w w') (hlt : b < w.heap.size) : PutAt w' b off p := by
  obtain ⟨B, cp, h1, h2⟩ := h.ex
  refine ⟨h.le, ?_, B, cp, ?_, byt_fr h2 hf (fun _ _ _ q => q)⟩
  · rw [← h.c0]; unfold World.cell?; rw [hf.block b hlt (fun q => q)]
  · rw [← h1]; unfold World.cell?; rw [hf.block b hlt (fun q => q)]
theorem Puts.fr {w w' : World} {A : Option Addr} {n cap : Nat} {P : List (Nat × List Nat)} (h : Puts w A n cap P) (hf : Fr (fun _ => False) w w') : Puts w' A n cap P := by
  obtain ⟨h1, h2, h3, h4⟩ := h
  refine ⟨h1, h2, h3, fun h0 => ?_⟩
  obtain ⟨b, e, h5⟩ := h4 h0
  exact ⟨b, e, fun i hi => (h5 i hi).fr rfl hf (lt_of_cell (h5 i hi).c0)⟩
set_option maxHeartbeats 4000000 in
set_option maxRecDepth 100000 in
theorem Byte_ok (w : World) (pages most : Int) (A : Option Addr) (n cp a : Nat) (P : List (Nat × List Nat)) (hP : Puts w A n cp P) (ha : a ≤ 18446744073709551615) :
    Calls Try.prog 50 #[.agg #[.int .i64 pages, .int .i64 most, .slice A n cp], .int .u64 a] w fun e w' => e = .returned (.int .u8 (pby P a)) ∧ Fr (fun _ => False) w w' := by
  have hn9 : n ≤ 9223372036854775807 := by have h1 := hP.2.1; have h2 := hP.2.2.1; unfold maxLen at h2; omega
  have HP := Lib.hid hP
  clear hP
  go_enter Try.func50, Try.ntmps50
  go_wp2_with fail
  obtain ⟨w1, hw1⟩ : ∃ w1, w1 = w.alloc (Obj.cells #[.int .i64 pages, .int .i64 most, .slice A n cp] 52) := ⟨_, rfl⟩
  have hb1 : Blk w1 w.heap.size 52 #[.int .i64 pages, .int .i64 most, .slice A n cp] := by rw [hw1]; exact Blk.new w 52 _
  have hf1 : Fr (fun _ => False) w w1 := by rw [hw1]; exact (Fr.refl _ w).alloc _
  rw [← hw1]
  have HB1 := Lib.hid hb1
  have HF1 := Lib.hid hf1
  clear hw1 hb1 hf1
  go_loopw [5] (fun i wr => ∃ j : Nat, j ≤ n ∧ i = .int .i64 ((j : Int) - 1) ∧ Hid (pby P a = pby (P.take j) a) ∧ Hid (Blk wr w.heap.size 52 #[.int .i64 pages, .int .i64 most, .slice A n cp]) ∧ Hid (Fr (fun _ => False) w wr)) (fun i _ => (intOf i + 1).toNat)
  case atStart => exact ⟨n, Nat.le_refl _, rfl, Lib.hid (by rw [← HP.out.1, List.take_length]), HB1, HF1⟩
  case round =>
    obtain ⟨j, hj, rfl, HE, HB, HF⟩ := hrel
    rcases j with _ | j
    · go_wp2_with fail
      go_ret
      refine ⟨?_, HF.out⟩
      rw [HE.out]; rfl
    · obtain ⟨hl, hnc, hcm, hz⟩ := HP.out
      obtain ⟨b, hAb, hx⟩ := hz (by omega)
      subst hAb
      have hpw := hx j (by omega)
      have hlt : b < w.heap.size := lt_of_cell hpw.c0
      have hp0 := hpw.fr rfl HF.out hlt
      have hst := pby_take (P := P) (i := j) (by omega) a
      rw [← HE.out] at hst
      obtain ⟨p, hp⟩ : ∃ p, p = P.getD j (0, []) := ⟨_, rfl⟩
      rw [← hp] at hst hp0
      obtain ⟨p1, pl⟩ := p
      obtain ⟨hle, hc0, B, bc, hc1, hby⟩ := hp0
      dsimp only at hst hle hc0 hc1 hby
      rw [show ((j + 1 : Nat) : Int) - 1 = (j : Int) from by omega]
      have HS := Lib.hid hst
      have X0 := Lib.hid (fun k => (HB.out.drewN k).cell 2)
      have X1 : Hid (∀ k, (wr.drewN k).cell? ⟨b, j * 2, none⟩ = some (.int .u64 p1)) := Lib.hid (fun k => hc0)
      have X2 : Hid (∀ k, (wr.drewN k).cell? ⟨b, j * 2 + 1, none⟩ = some (.slice B pl.length bc)) := Lib.hid (fun k => hc1)
      have hbyl : pl.length ≤ 9223372036854775807 := by have h1 := hby.2.2.1; have h2 := hby.2.2.2.1; unfold maxLen at h2; omega
      have HBY := Lib.hid hby
      have hjn : (j : Int) < (n : Int) := by omega
      have hjn' : j < n := by omega
      clear hst hc0 hc1 hby hx hz hpw hp hl hnc hcm
      have hcell : ∀ W : World, (⟨b, 0 + j * 2, none⟩ : Addr) = ⟨b, j * 2, none⟩ := fun _ => by rw [Nat.zero_add]
      by_cases hg : p1 ≤ a
      · have hd : decide ((p1 : Int) ≤ (a : Int)) = true := by simp; omega
        have hsub : IntKind.u64.wrap ((a : Int) - (p1 : Int)) = (a : Int) - (p1 : Int) := by rw [IntKind.wrap_u64]; omega
        by_cases hh : a - p1 < pl.length
        · have hd2 : decide ((a : Int) - (p1 : Int) < (pl.length : Int)) = true := by simp; omega
          obtain ⟨gb, off, hB, hgb, hgc⟩ := HBY.out.2.2.2.2 (by omega)
          subst hB
          have X3 : Hid (∀ k, (wr.drewN k).cell? ⟨gb, off + (a - p1), none⟩ = some (.int .u8 (pl.getD (a - p1) 0))) := Lib.hid (fun k => hgc _ hh)
          have hat : ((a : Int) - (p1 : Int)).toNat = a - p1 := by omega
          have x0 := X0.out
          have x1 := X1.out
          have x2 := X2.out
          have x3 := X3.out
          clear hgc
          go_wp2_with fail
          go_quiet (fail)
          go_wp2_with fail
          go_quiet (fail)
          go_wp2_with fail
          go_ret
          refine ⟨?_, (HF.out.drewN _).drewN _⟩
          rw [HS.out, if_pos ⟨hg, hh⟩, List.getD_eq_getElem?_getD, List.getElem?_eq_getElem hh]
          rfl
        · have hd2 : decide ((a : Int) - (p1 : Int) < (pl.length : Int)) = false := by simp; omega
          have x0 := X0.out
          have x1 := X1.out
          have x2 := X2.out
          go_wp2_with fail
          go_quiet (fail)
          go_wp2_with fail
          exact ⟨⟨j, by omega, rfl, Lib.hid (by rw [HS.out, if_neg (fun h => hh h.2)]), Lib.hid (HB.out.drewN _), Lib.hid (HF.out.drewN _)⟩, by simp [intOf]⟩
      · have hd : decide ((p1 : Int) ≤ (a : Int)) = false := by simp; omega
        have x0 := X0.out
        have x1 := X1.out
        have x2 := X2.out
        go_wp2_with fail
        go_quiet (fail)
        go_wp2_with fail
        exact ⟨⟨j, by omega, rfl, Lib.hid (by rw [HS.out, if_neg (fun h => hg h.1)]), Lib.hid (HB.out.drewN _), Lib.hid (HF.out.drewN _)⟩, by simp [intOf]⟩
set_option maxHeartbeats 2000000 in
set_option maxRecDepth 100000 in
theorem PFault_ok {w : World} {A : Pa} {d : Pd} (h : Lay w A d) : Calls Try.prog 19 #[.pointer (some ⟨A.p, 0, none⟩)] w fun e w' => e = .returned (.int .i64 0) ∧ w = w' := by
  have c3 : w.cell? ⟨A.p, 6, none⟩ = some (.int .i64 0) := h.blk.cell 6
  clear h
  go_enter Try.func19, Try.ntmps19
  go_wp2
  go_ret
  exact ⟨rfl, rfl⟩
end Go.Proofs.Ytlnffcledpccjaa
/-
  The document's Read of a memory.
-/
namespace Go.Proofs.Ytlnffcledpccjaa
set_option linter.unusedVariables false
set_option linter.unusedSimpArgs false
open Go.ChangeShapes Go.WideShapes Go.ChangeAt
open Go.RowKit Go.Shelf
theorem own_u8 {w w' : World} {B n : Nat} {v : Value} {xs : List Value} (h : w.ownsRow B 5 1 v n xs) (hf : Fr (fun _ => False) w w') : w'.ownsRow B 5 1 v n xs := by
  refine ⟨h.1, ?_⟩
  rcases h.2 with h0 | ⟨g, cap, cur, e, h1, hg, h2⟩
  · exact .inl h0
  · subst e
    have hb : Blk w g 5 cur := hg
    exact .inr ⟨g, cap, cur, rfl, h1, hf.keep hb (fun q => q), h2⟩
def rdL (P : List (Nat × List Nat)) (a n : Nat) : List Nat := (List.range n).map fun i => pby P (a + i)
theorem rdL_succ (P : List (Nat × List Nat)) (a n : Nat) : rdL P a (n + 1) = rdL P a n ++ [pby P (a + n)] := by simp [rdL, List.range_succ]
theorem rdL_len (P : List (Nat × List Nat)) (a n : Nat) : (rdL P a n).length = n := by simp [rdL]
theorem pby_lt {w : World} {A : Option Addr} {n cp : Nat} {P : List (Nat × List Nat)} (h : Puts w A n cp P) (a : Nat) : pby P a < 256 := by
  have key : ∀ j, j ≤ n → pby (P.take j) a < 256 := by
    intro j
    induction j with
    | zero => intro _; rw [pby_nil]; omega
    | succ j ih =>
      intro hj
      obtain ⟨hl, _, _, hz⟩ := h
      obtain ⟨b, _, hx⟩ := hz (by omega)
      obtain ⟨_, _, B, bc, _, hby⟩ := hx j (by omega)
      rw [pby_take (by omega)]
      split
      · rename_i hc
        rw [List.getD_eq_getElem?_getD, List.getElem?_eq_getElem hc.2]
        exact hby.2.1 _ (List.getElem_mem _)
      · exact ih (by omega)
  have := key n (Nat.le_refl _)
  rw [← h.1, List.take_length] at this
  exact this
theorem rdL_lt {w : World} {A : Option Addr} {n cp : Nat} {P : List (Nat × List Nat)} (h : Puts w A n cp P) (a m : Nat) : ∀ x ∈ rdL P a m, x < 256 := by
  intro x hx
  unfold rdL at hx
  rw [List.mem_map] at hx
  obtain ⟨i, _, rfl⟩ := hx
  exact pby_lt h _
theorem byt_own {w : World} {B n : Nat} {v : Value} {l : List Nat} (h : w.ownsRow B 5 1 v n (l.map U8)) (hl : l.length = n) (hx : ∀ x ∈ l, x < 256) (hn : n ≤ maxLen) : ∃ A cp, v = .slice A n cp ∧ Byt w A n cp l ∧ (∀ g, A.map (·.block) = some g → 0 < n → B ≤ g) ∧ (A = none → cp = 0) := by
  rcases Nat.eq_zero_or_pos n with h0 | h0
  · subst h0
    rcases h.2 with ⟨e, h1⟩ | ⟨g, cap, cur, e, h1, h2, h3, h4, h5, h6⟩
    · subst e
      exact ⟨none, 0, rfl, ⟨hl, hx, Nat.le_refl _, Nat.zero_le _, fun q => absurd q (by omega)⟩, fun g e _ => (by cases e), fun _ => rfl⟩
    · subst e
      exact ⟨_, _, rfl, ⟨hl, hx, by omega, h4, fun q => absurd q (by omega)⟩, fun g' e q => absurd q (by omega), fun e => (by cases e)⟩
  · rcases h.2 with ⟨e, h1⟩ | ⟨g, cap, cur, e, h1, h2, h3, h4, h5, h6⟩
    · omega
    · subst e
      refine ⟨_, _, rfl, ⟨hl, hx, h3, h4, fun _ => ⟨g, 0, rfl, (h.lt g rfl).2, fun j hj => ?_⟩⟩, fun g' e q => (by simp at e; subst e; exact (h.lt _ rfl).1), fun e => (by cases e)⟩
      rw [Nat.zero_add, h.cellAt j (by omega), List.getElem?_map, List.getD_eq_getElem?_getD, List.getElem?_eq_getElem (by omega)]
      rfl
def RdP8 (P : List (Nat × List Nat)) (a n : Nat) (w : World) (e : Ending) (w' : World) : Prop :=
  ∃ A cp, e = .returned (.slice A n cp) ∧ Byt w' A n cp (rdL P a n) ∧ (∀ g, A.map (·.block) = some g → 0 < n → w.heap.size ≤ g) ∧ Fr (fun _ => False) w w' ∧ (A = none → cp = 0)
set_option maxHeartbeats 4000000 in
set_option maxRecDepth 100000 in
theorem Read8_ok (w : World) (pages most : Int) (A : Option Addr) (m cp a n : Nat) (P : List (Nat × List Nat)) (hP : Puts w A m cp P) (ha : a + n ≤ 18446744073709551615) (hn : n ≤ 1048576) :
    Calls Try.prog 28 #[.agg #[.int .i64 pages, .int .i64 most, .slice A m cp], .int .u64 a, .int .i64 n] w (RdP8 P a n w) := by
  obtain ⟨i0, hii, hz0, hz1, hz2⟩ := info_parts info5
  have HP := Lib.hid hP
  clear hP
  go_enter Try.func28, Try.ntmps28
  go_wp2_with fail
  obtain ⟨w1, hw1⟩ : ∃ w1, w1 = w.alloc (Obj.cells #[.int .i64 pages, .int .i64 most, .slice A m cp] 52) := ⟨_, rfl⟩
  have hb1 : Blk w1 w.heap.size 52 #[.int .i64 pages, .int .i64 most, .slice A m cp] := by rw [hw1]; exact Blk.new w 52 _
  have hf1 : Fr (fun _ => False) w w1 := by rw [hw1]; exact (Fr.refl _ w).alloc _
  rw [← hw1]
  have HB1 := Lib.hid hb1
  have HF1 := Lib.hid hf1
  clear hw1 hb1 hf1
  go_loopw [7, 8] (fun v7 v8 wr => ∃ (j : Nat) (B : Option Addr) (bc : Nat), j ≤ n ∧ v7 = .slice B j bc ∧ v8 = .int .i64 j ∧ Hid (wr.ownsRow w.heap.size 5 1 (.slice B j bc) j ((rdL P a j).map U8)) ∧ Hid (Blk wr w.heap.size 52 #[.int .i64 pages, .int .i64 most, .slice A m cp]) ∧ Hid (Fr (fun _ => False) w wr)) (fun v7 v8 _ => n - slLen v7)
  case atStart => exact ⟨0, none, 0, Nat.zero_le _, rfl, rfl, Lib.hid (World.ownsRow_nil w1 _ 5 1), HB1, HF1⟩
  case round =>
    obtain ⟨j, B, bc, hj, rfl, rfl, HO, HB, HF⟩ := hrel
    by_cases hlt : j < n
    · have HBY := Lib.hid (Byte_ok wr pages most A m cp (a + j) P (HP.out.fr HF.out) (by omega))
      have hcj : ((a + j : Nat) : Int) = (a : Int) + (j : Int) := by omega
      rw [hcj] at HBY
      have x0 := HB.out.cell 0
      have x1 := HB.out.cell 1
      have x2 := HB.out.cell 2
      clear hcj
      have HL9 : Hid (pby P (a + j) < 256) := Lib.hid (pby_lt HP.out _)
      go_wp2_with (first
        | (go_at_call 50
           refine HBY.out.mono ?_
           rintro e w3 ⟨rfl, h3⟩
           have HO3 := Lib.hid (own_u8 HO.out h3)
           have HF3 := Lib.hid (HF.out.trans h3)
           have HB3 := Lib.hid (HB.out.fr h3 (fun q => q))
           clear h3)
        | (at_builtin
           refine wpList_append_own _ rfl (.tmp 14) (.tmp 21) 34 rfl w.heap.size 5 i0 (.int .u8 0) 1 1 Try.underlying34 hii hz0 hz1 hz2 rfl (by decide) (.slice B j bc) j ((rdL P a j).map U8) rfl (HO3.out.alloc _) ⟨w3.heap.size, 0, none⟩ 1 1 [.int .u8 ((pby P (a + j) : Nat) : Int)] rfl rfl (Blk.src (Blk.new w3 5 _)) (by simp [Value.oneCell']) (by unfold maxLen; omega) (by omega) (by have := HF3.out.size; simp; omega) ?_
           intro v' w4 hown4 hgrow4 _
           obtain ⟨A4, cp4, rfl⟩ : ∃ A cp, v' = .slice A (j + 1) cp := by
             rcases hown4.2 with ⟨e, h0⟩ | ⟨g, cap, cur, e, _⟩
             · omega
             · exact ⟨_, _, e⟩
           have f4 : Fr (fun q => (Value.slice B j bc).ownBlock = some q) w3 w4 := ((Fr.refl _ w3).alloc _).trans (Fr.grownV hgrow4)
           have hnot : ∀ q, (Value.slice B j bc).ownBlock = some q → w.heap.size ≤ q ∧ q ≠ w.heap.size := fun q hq => by
             rcases HO3.out.2 with ⟨e, _⟩ | ⟨g, cp', cur, e, _, hg, _⟩
             · rw [e] at hq; cases hq
             · have hq2 := hq
               rw [e] at hq2
               injection hq2 with hq2
               subst hq2
               have hgb : Blk w3 g 5 cur := hg
               exact ⟨(HO3.out.lt _ hq).1, fun e => hgb.ne_ HB3.out (by decide) e⟩
           have HF4 := Lib.hid (HF3.out.trans_new f4 (fun q hq => .inr (hnot q hq).1))
           have HB4 := Lib.hid (HB3.out.fr f4 (fun hq => (hnot _ hq).2 rfl))
           have HO4 : Hid (w4.ownsRow w.heap.size 5 1 (.slice A4 (j + 1) cp4) (j + 1) ((rdL P a (j + 1)).map U8)) := Lib.hid (by rw [rdL_succ, List.map_append]; exact hown4)
           clear hown4 hgrow4 f4 hnot))
      exact ⟨⟨j + 1, A4, cp4, by omega, rfl, rfl, HO4, HB4, HF4⟩, by simp [slLen]; omega⟩
    · obtain rfl : j = n := by omega
      go_wp2
      go_ret
      obtain ⟨A', cp', e, hb, hg, hz⟩ := byt_own HO.out (rdL_len _ _ _) (rdL_lt HP.out _ _) (by unfold maxLen; omega)
      refine ⟨A', cp', by rw [← e]; rfl, hb, hg, HF.out, hz⟩
end Go.Proofs.Ytlnffcledpccjaa
/-
  The document's Write of a memory.
-/
namespace Go.Proofs.Ytlnffcledpccjaa
set_option linter.unusedVariables false
set_option linter.unusedSimpArgs false
open Go.ChangeShapes Go.WideShapes Go.ChangeAt
open Go.RowKit Go.Shelf
theorem info123 : (Try.prog.info? 123).map (fun i => (i.zero, i.size, i.bytes)) = some (some (.agg #[.int .u64 0, .slice none 0 0]), 2, 32) := by kernel_rfl
theorem grown_refl (w : World) (o : Option Nat) : w.grownBy w o := by
  constructor <;> first | rfl | exact Nat.le_refl _ | (intros; rfl)
theorem app_run5 {w : World} {B n m c : Nat} {v : Value} {xs : List Value} {X : Option Addr} {l : List Nat} (hown : w.ownsRow B 5 1 v n xs) (hb : Byt w X m c l) (hX : X = none → c = 0) (hnm : n + m ≤ 2097152) (hB : B ≤ w.heap.size) :
    ∃ v' w', Hid (∀ ty, (Builtin.append_ #[34, 34] ty #[v, .slice X m c]).run Try.prog w = .ok v' w') ∧ w'.ownsRow B 5 1 v' (n + m) (xs ++ l.map U8) ∧ w.grownBy w' v.ownBlock := by
  obtain ⟨i0, hi, hz0, hz1, hz2⟩ := info_parts info5
  obtain ⟨hl, hx, hmc, hcm, hc⟩ := hb
  rcases X with _ | ad
  · have e := hX rfl
    subst e
    obtain rfl : m = 0 := by omega
    obtain rfl : l = [] := List.eq_nil_of_length_eq_zero hl
    refine ⟨v, w, Lib.hid (fun ty => run_append_owned_none (P := Try.prog) w B 34 ty 5 i0 1 Try.underlying34 hi v n xs hown), by simpa using hown, grown_refl _ _⟩
  · have hys : ∀ j u, (l.map U8)[j]? = some u → w.cell? (ad.add j) = some u := fun j u hj => by
      have hjl : j < l.length := by
        have := (List.getElem?_eq_some_iff.1 hj).1
        simpa using this
      obtain ⟨g, off, e, hlt, hcell⟩ := hc (by omega)
      cases e
      rw [addr_add, hcell j (by omega), ← hj, List.getElem?_map, List.getD_eq_getElem?_getD, List.getElem?_eq_getElem hjl]
      rfl
    obtain ⟨v', w', h, h2, h3, _⟩ := run_append_own_at (P := Try.prog) w B 34 34 5 i0 _ 1 1 Try.underlying34 hi hz0 hz1 hz2 rfl (by decide) v n xs hown ad m c (l.map U8) (by simp [hl]) hys (fun u hu => by rw [List.mem_map] at hu; obtain ⟨_, _, rfl⟩ := hu; rfl) (by unfold maxLen; omega) (by omega) hB
    exact ⟨v', w', Lib.hid (fun ty => h), h2, h3⟩
theorem app_run123 {w : World} {B n m c : Nat} {v : Value} {xs ys : List Value} {X : Option Addr} (hown : w.ownsRow B 123 2 v n xs) (hl : ys.length = m * 2) (hX : X = none → m = 0 ∧ c = 0) (hys : ∀ ad, X = some ad → ∀ j u, ys[j]? = some u → w.cell? (ad.add j) = some u) (h1 : ∀ u ∈ ys, u.oneCell' = true) (hnm : n + m ≤ 1000000) (hB : B ≤ w.heap.size) :
    ∃ v' w', Hid (∀ ty, (Builtin.append_ #[50, 50] ty #[v, .slice X m c]).run Try.prog w = .ok v' w') ∧ w'.ownsRow B 123 2 v' (n + m) (xs ++ ys) ∧ w.grownBy w' v.ownBlock := by
  obtain ⟨i0, hi, hz0, hz1, hz2⟩ := info_parts info123
  rcases X with _ | ad
  · obtain ⟨rfl, rfl⟩ := hX rfl
    obtain rfl : ys = [] := List.eq_nil_of_length_eq_zero hl
    refine ⟨v, w, Lib.hid (fun ty => run_append_owned_none (P := Try.prog) w B 50 ty 123 i0 2 Try.underlying50 hi v n xs hown), by simpa using hown, grown_refl _ _⟩
  · obtain ⟨v', w', h, h2, h3, _⟩ := run_append_own_at (P := Try.prog) w B 50 50 123 i0 _ 2 32 Try.underlying50 hi hz0 hz1 hz2 rfl (by decide) v n xs hown ad m c ys hl (hys ad rfl) h1 (by unfold maxLen; omega) (by omega) hB
    exact ⟨v', w', Lib.hid (fun ty => h), h2, h3⟩
/-- the cells of what was written -/
theorem Puts.row {w : World} {A : Option Addr} {n cp : Nat} {P : List (Nat × List Nat)} (h : Puts w A n cp P) : ∃ ys : List Value, ys.length = n * 2 ∧ (∀ u ∈ ys, u.oneCell' = true) ∧ (∀ ad, A = some ad → 0 < n → ∀ j u, ys[j]? = some u → w.cell? (ad.add j) = some u) ∧ ∀ i, i < n → ∃ B bc, ys[i * 2]? = some (.int .u64 (P.getD i (0, [])).1) ∧ ys[i * 2 + 1]? = some (.slice B (P.getD i (0, [])).2.length bc) ∧ Byt w B (P.getD i (0, [])).2.length bc (P.getD i (0, [])).2 ∧ (P.getD i (0, [])).1 ≤ 18446744073709551615 := by
  obtain ⟨hl, hnc, hcm, hz⟩ := h
  rcases Nat.eq_zero_or_pos n with h0 | h0
  · subst h0
    exact ⟨[], rfl, fun u hu => (by cases hu), fun _ _ q => absurd q (by omega), fun i q => absurd q (by omega)⟩
  · obtain ⟨b, rfl, hx⟩ := hz h0
    have hcell : ∀ j, j < n * 2 → ∃ u, w.cell? ⟨b, j, none⟩ = some u ∧ u.oneCell' = true := fun j hj => by
      have hp := hx (j / 2) (by omega)
      obtain ⟨B, bc, h1, _⟩ := hp.ex
      rcases Nat.mod_two_eq_zero_or_one j with e | e
      · exact ⟨_, by rw [show j = j / 2 * 2 from by omega]; exact hp.c0, rfl⟩
      · exact ⟨_, by rw [show j = j / 2 * 2 + 1 from by omega]; exact h1, rfl⟩
    have hg : ∀ j, j < n * 2 → ((List.range (n * 2)).map fun j => (w.cell? ⟨b, j, none⟩).getD undef)[j]? = w.cell? ⟨b, j, none⟩ := fun j hj => by
      obtain ⟨u, hu, _⟩ := hcell j hj
      rw [List.getElem?_map, List.getElem?_range hj, hu, Option.map_some, hu]
      rfl
    refine ⟨(List.range (n * 2)).map fun j => (w.cell? ⟨b, j, none⟩).getD undef, by simp, fun u hu => ?_, fun ad e _ j u hj => ?_, fun i hi => ?_⟩
    · rw [List.mem_map] at hu
      obtain ⟨j, hj, rfl⟩ := hu
      obtain ⟨u, hu, h1⟩ := hcell j (List.mem_range.1 hj)
      rw [hu]; exact h1
    · cases e
      have hjl : j < n * 2 := by
        have := (List.getElem?_eq_some_iff.1 hj).1
        simpa using this
      rw [hg j hjl] at hj
      rw [addr_add, Nat.zero_add]; exact hj
    · have hp := hx i hi
      obtain ⟨B, bc, h1, h2⟩ := hp.ex
      exact ⟨B, bc, by rw [hg _ (by omega)]; exact hp.c0, by rw [hg _ (by omega)]; exact h1, h2, hp.le⟩
/-- in which blocks what was written lies -/
def PutsIn (K : Nat → Prop) (w : World) (A : Option Addr) (n : Nat) : Prop :=
  ∀ b off, A = some ⟨b, off, none⟩ → 0 < n → K b ∧ ∀ i, i < n → ∀ B ln bc, w.cell? ⟨b, off + (i * 2 + 1), none⟩ = some (.slice B ln bc) → ∀ g, B.map (·.block) = some g → 0 < ln → K g
theorem PutsIn.fr {K K' S : Nat → Prop} {w w' : World} {A : Option Addr} {n cp : Nat} {P : List (Nat × List Nat)} (h : PutsIn K w A n) (hP : Puts w A n cp P) (hf : Fr S w w') (hS : ∀ b off, A = some ⟨b, off, none⟩ → 0 < n → ¬ S b) (hK : ∀ q, K q → K' q) : PutsIn K' w' A n := by
  intro b off e h0
  obtain ⟨h1, h2⟩ := h b off e h0
  obtain ⟨b0, e0, hx⟩ := hP.2.2.2 h0
  have hlt : b < w.heap.size := by
    rw [e] at e0; injection e0 with e0; injection e0 with e1 _ _; subst e1
    exact lt_of_cell (hx 0 h0).c0
  refine ⟨hK _ h1, fun i hi B ln bc hc g hg hl => hK _ (h2 i hi B ln bc ?_ g hg hl)⟩
  rw [← hc]; unfold World.cell?; rw [hf.block b hlt (hS b off e h0)]
theorem Puts.frK {K S : Nat → Prop} {w w' : World} {A : Option Addr} {n cp : Nat} {P : List (Nat × List Nat)} (hP : Puts w A n cp P) (h : PutsIn K w A n) (hf : Fr S w w') (hS : ∀ q, K q → ¬ S q) : Puts w' A n cp P ∧ PutsIn K w' A n := by
  refine ⟨?_, h.fr hP hf (fun b off e h0 => hS b (h b off e h0).1) (fun _ q => q)⟩
  obtain ⟨h1, h2, h3, h4⟩ := hP
  refine ⟨h1, h2, h3, fun h0 => ?_⟩
  obtain ⟨b, e, h5⟩ := h4 h0
  obtain ⟨k1, k2⟩ := h b 0 e h0
  refine ⟨b, e, fun i hi => ?_⟩
  obtain ⟨B, bc, g1, g2⟩ := (h5 i hi).ex
  have hlt := lt_of_cell (h5 i hi).c0
  refine ⟨(h5 i hi).le, ?_, B, bc, ?_, byt_fr g2 hf (fun g eg hl hq => hS g (k2 i hi B _ bc (by rw [Nat.zero_add]; exact g1) g eg hl) hq)⟩
  · rw [← (h5 i hi).c0]; unfold World.cell?; rw [hf.block b hlt (hS b k1)]
  · rw [← g1]; unfold World.cell?; rw [hf.block b hlt (hS b k1)]
theorem PutsIn.more {K K' : Nat → Prop} {w : World} {A : Option Addr} {n : Nat} (h : PutsIn K w A n) (hK : ∀ q, K q → K' q) : PutsIn K' w A n := fun b off e h0 => ⟨hK _ (h b off e h0).1, fun i hi B ln bc hc g hg hl => hK _ ((h b off e h0).2 i hi B ln bc hc g hg hl)⟩
def WrP8 (pages most : Int) (A : Option Addr) (n : Nat) (P : List (Nat × List Nat)) (w : World) (e : Ending) (w' : World) : Prop :=
  ∃ A' cp, e = .returned (.agg #[.int .i64 pages, .int .i64 most, .slice A' (n + 1) cp]) ∧ Puts w' A' (n + 1) cp P ∧ Fr (fun _ => False) w w' ∧ ∀ K, PutsIn K w A n → PutsIn (fun q => K q ∨ w.heap.size ≤ q) w' A' (n + 1)
theorem wpList_append_run {P : Program} {w : World} {ops : Array Oper} {rest : List Oper} {o : Oper} {a : Act} {Q : Exit → Act → World → Prop} (hgd : o.guard = none) (s x : Operand) (T : TypeId)
    (ho : o.op = .call { callee := .builtin .append, args := #[s, x], argTypes := #[T, T] }) (v xv v' : Value) (w' : World) (hs : a.eval s = v) (hx : a.eval x = xv)
    (hrun : Hid (∀ ty, (Builtin.append_ #[T, T] ty #[v, xv]).run P w = .ok v' w')) (h : wpList P ops Q rest (a.put o.dst v') w') : wpList P ops Q (o :: rest) a w := by
  refine wpList_plain hgd fun K hK => ?_
  have hrun := hrun.out o.type
  unfold Oper.wp
  simp [execOp, ho, resolve, invoke, builtin, hs, hx, hrun, Result.andThen]
  exact hK _ _ h
theorem own_keep123 {w w' : World} {B n : Nat} {v : Value} {xs : List Value} {S : Nat → Prop} (h : w.ownsRow B 123 2 v n xs) (hf : Fr S w w') (hS : ∀ g, v.ownBlock = some g → ¬ S g) : w'.ownsRow B 123 2 v n xs := by
  refine ⟨h.1, ?_⟩
  rcases h.2 with h0 | ⟨g, cap, cur, e, h1, hg, h2⟩
  · exact .inl h0
  · subst e
    have hb : Blk w g 123 cur := hg
    exact .inr ⟨g, cap, cur, rfl, h1, hf.keep hb (hS g rfl), h2⟩
theorem own_slice123 {B : Nat} {w : World} {v : Value} {n : Nat} {xs : List Value} (h : w.ownsRow B 123 2 v (n + 1) xs) : ∃ g cp, v = .slice (some ⟨g, 0, none⟩) (n + 1) cp := by
  rcases h.2 with ⟨e, h0⟩ | ⟨g, cap, cur, e, _⟩
  · omega
  · exact ⟨_, _, e⟩
set_option maxHeartbeats 4000000 in
set_option maxRecDepth 100000 in
theorem Write8_ok (w : World) (pages most : Int) (A : Option Addr) (n cp at_ ln bc : Nat) (B : Option Addr) (l : List Nat) (P : List (Nat × List Nat)) (hP : Puts w A n cp P) (hA : n = 0 → A = none ∧ cp = 0) (hB : Byt w B ln bc l) (hBn : B = none → bc = 0) (hn : n ≤ 1000) (hln : ln ≤ 1048576) (hat : at_ ≤ 18446744073709551615) :
    Calls Try.prog 30 #[.agg #[.int .i64 pages, .int .i64 most, .slice A n cp], .int .u64 at_, .slice B ln bc] w (WrP8 pages most A n (P ++ [(at_, l)]) w) := by
  obtain ⟨ys, hy1, hy2, hy3, hy4⟩ := hP.row
  obtain ⟨w1, hw1⟩ : ∃ w1, w1 = w.alloc (Obj.cells #[.int .i64 pages, .int .i64 most, .slice A n cp] 52) := ⟨_, rfl⟩
  obtain ⟨w2, hw2⟩ : ∃ w2, w2 = w1.alloc (Obj.cells #[.int .i64 0, .int .i64 0, .slice none 0 0] 52) := ⟨_, rfl⟩
  have hb1 : Blk w1 w.heap.size 52 #[.int .i64 pages, .int .i64 most, .slice A n cp] := by rw [hw1]; exact Blk.new w 52 _
  have hs1 : w1.heap.size = w.heap.size + 1 := by rw [hw1, World.size_alloc]
  have hf1 : Fr (fun _ => False) w w1 := by rw [hw1]; exact (Fr.refl _ w).alloc _
  have hb2 : Blk w2 (w.heap.size + 1) 52 #[.int .i64 0, .int .i64 0, .slice none 0 0] := by rw [hw2, ← hs1]; exact Blk.new w1 52 _
  have hs2 : w2.heap.size = w.heap.size + 2 := by rw [hw2, World.size_alloc, hs1]
  have hf2 : Fr (fun _ => False) w1 w2 := by rw [hw2]; exact (Fr.refl _ w1).alloc _
  obtain ⟨w3, hw3⟩ : ∃ w3, w3 = w2.alloc (Obj.cells #[] 123) := ⟨_, rfl⟩
  have hf3 : Fr (fun _ => False) w2 w3 := by rw [hw3]; exact (Fr.refl _ w2).alloc _
  have hs3 : w3.heap.size = w.heap.size + 3 := by rw [hw3, World.size_alloc, hs2]
  have ho3 : w3.ownsRow (w.heap.size + 2) 123 2 (.slice (some ⟨w.heap.size + 2, 0, none⟩) 0 0) 0 [] := by
    have := World.ownsRow_lit (e := 123) (size := 2) (base := w2.heap.size) w2 #[] 0 (Nat.le_refl _) (by unfold maxLen; omega) rfl
    rw [← hw3, hs2] at this
    exact this
  have hfw3 := (hf1.trans hf2).trans hf3
  have hys3 : ∀ ad, A = some ad → ∀ j u, ys[j]? = some u → w3.cell? (ad.add j) = some u := fun ad e j u hj => by
    have hn0 : 0 < n := by
      have := (List.getElem?_eq_some_iff.1 hj).1
      omega
    have hc := hy3 ad e hn0 j u hj
    obtain ⟨b, e', _⟩ := hP.2.2.2 hn0
    rw [e'] at e
    cases e
    rw [addr_add] at hc ⊢
    rw [← hc]; unfold World.cell?; rw [hfw3.block b (lt_of_cell hc) (fun q => q)]
  obtain ⟨v4, w4, hr4, ho4, hg4⟩ := app_run123 (X := A) (m := n) (c := cp) ho3 hy1 (fun e => by
    rcases Nat.eq_zero_or_pos n with h0 | h0
    · exact ⟨h0, (hA h0).2⟩
    · obtain ⟨b, e', _⟩ := hP.2.2.2 h0
      rw [e'] at e; cases e) hys3 hy2 (by omega) (by omega)
  have f4 : Fr (fun q => q = w.heap.size + 2) w3 w4 := (Fr.grownV hg4).more (fun q hq => by injection hq with hq; exact hq.symm)
  have hs4 := f4.size
  obtain ⟨w5, hw5⟩ : ∃ w5, w5 = w4.alloc (Obj.cells #[] 5) := ⟨_, rfl⟩
  have hf5 : Fr (fun _ => False) w4 w5 := by rw [hw5]; exact (Fr.refl _ w4).alloc _
  have hs5 : w5.heap.size = w4.heap.size + 1 := by rw [hw5, World.size_alloc]
  have ho5 : w5.ownsRow w4.heap.size 5 1 (.slice (some ⟨w4.heap.size, 0, none⟩) 0 0) 0 [] := by
    have := World.ownsRow_lit (e := 5) (size := 1) (base := w4.heap.size) w4 #[] 0 (Nat.le_refl _) (by unfold maxLen; omega) rfl
    rw [← hw5] at this
    exact this
  have hfw5 : Fr (fun _ => False) w w5 := (hfw3.trans_new f4 (fun q hq => .inr (by omega))).trans hf5
  obtain ⟨v6, w6, hr6, ho6, hg6⟩ := app_run5 (X := B) (m := ln) (c := bc) (l := l) ho5 (byt_fr hB hfw5 (fun _ _ _ q => q)) hBn (by omega) (by omega)
  have f6 : Fr (fun q => q = w4.heap.size) w5 w6 := (Fr.grownV hg6).more (fun q hq => by injection hq with hq; exact hq.symm)
  rw [Nat.zero_add, List.nil_append] at ho6
  obtain ⟨B6, c6, e6, hb6, hb6g, _⟩ := byt_own ho6 hB.1 hB.2.1 (by unfold maxLen; omega)
  subst e6
  obtain ⟨w7, hw7⟩ : ∃ w7, w7 = w6.alloc (Obj.cells #[.int .u64 at_, .slice B6 ln c6] 123) := ⟨_, rfl⟩
  have hf7 : Fr (fun _ => False) w6 w7 := by rw [hw7]; exact (Fr.refl _ w6).alloc _
  have hb7 : Blk w7 w6.heap.size 123 [.int .u64 at_, .slice B6 ln c6].toArray := by rw [hw7]; exact Blk.new w6 123 _
  have hs6 := f6.size
  have hs7 := hf7.size
  have f47 : Fr (fun q => q = w4.heap.size) w4 w7 := ((hf5.more (fun q hq => hq.elim)).trans f6).trans (hf7.more (fun q hq => hq.elim))
  have ho7 := own_keep123 ho4 f47 (fun g hg e => by have := (ho4.lt g hg).2; omega)
  obtain ⟨v8, w8, hr8, ho8, hg8⟩ := app_run123 (X := some ⟨w6.heap.size, 0, none⟩) (m := 1) (c := 1) (ys := [.int .u64 at_, .slice B6 ln c6]) ho7 rfl (fun e => by cases e) (fun ad e => by cases e; exact Blk.src hb7) (fun u hu => by simp at hu; rcases hu with rfl | rfl <;> rfl) (by omega) (by omega)
  have f8 : Fr (fun q => w.heap.size + 2 ≤ q) w7 w8 := (Fr.grownV hg8).more (fun q hq => (ho7.lt q hq).1)
  rw [Nat.zero_add, List.nil_append] at ho8
  obtain ⟨g8, c8, e8⟩ := own_slice123 ho8
  subst e8
  have hfw8 : Fr (fun _ => False) w w8 := ((hfw5.trans_new f6 (fun q hq => .inr (by omega))).trans hf7).trans_new f8 (fun q hq => .inr (by omega))
  have F28 : Fr (fun q => w.heap.size + 2 ≤ q) w2 w8 := ((((hf3.more (fun q hq => hq.elim)).trans (f4.more (fun q hq => by omega))).trans (f47.more (fun q hq => by omega)))).trans f8
  have hB18 := (hb1.fr hf2 (fun q => q)).fr F28 (by omega)
  have hB28 := hb2.fr F28 (by omega)
  have x0 := hB18.cell 0
  have x1 := hB18.cell 1
  have x2 := hB18.cell 2
  have z2 : w8.frozen? ⟨w.heap.size, 2, none⟩ = false := hB18.frozen 2
  obtain ⟨V, hV⟩ : ∃ V, V = Value.slice (some ⟨g8, 0, none⟩) (n + 1) c8 := ⟨_, rfl⟩
  have fA : Fr (fun q => q = w.heap.size) w8 (w8.setCell ⟨w.heap.size, 2, none⟩ V) := (Fr.refl (fun q => q = w.heap.size) _).set_ (p := ⟨w.heap.size, 2, none⟩) rfl _
  have bA : Blk (w8.setCell ⟨w.heap.size, 2, none⟩ V) w.heap.size 52 #[.int .i64 pages, .int .i64 most, V] := hB18.set_ 2 _
  have a0 := bA.cell 0
  have a1 := bA.cell 1
  have a2 := bA.cell 2
  have b2A := hB28.fr fA (by omega)
  have c0 := b2A.cell 0
  have d0 : (w8.setCell ⟨w.heap.size, 2, none⟩ V).frozen? ⟨w.heap.size + 1, 0, none⟩ = false := b2A.frozen 0
  have b2B : Blk ((w8.setCell ⟨w.heap.size, 2, none⟩ V).setCell ⟨w.heap.size + 1, 0, none⟩ (.int .i64 pages)) (w.heap.size + 1) 52 #[.int .i64 pages, .int .i64 0, .slice none 0 0] := b2A.set_ 0 _
  have fB : Fr (fun q => q = w.heap.size + 1) (w8.setCell ⟨w.heap.size, 2, none⟩ V) ((w8.setCell ⟨w.heap.size, 2, none⟩ V).setCell ⟨w.heap.size + 1, 0, none⟩ (.int .i64 pages)) := (Fr.refl (fun q => q = w.heap.size + 1) _).set_ (p := ⟨w.heap.size + 1, 0, none⟩) rfl _
  have c1 := b2B.cell 1
  have d1 : ((w8.setCell ⟨w.heap.size, 2, none⟩ V).setCell ⟨w.heap.size + 1, 0, none⟩ (.int .i64 pages)).frozen? ⟨w.heap.size + 1, 1, none⟩ = false := b2B.frozen 1
  have b2C : Blk (((w8.setCell ⟨w.heap.size, 2, none⟩ V).setCell ⟨w.heap.size + 1, 0, none⟩ (.int .i64 pages)).setCell ⟨w.heap.size + 1, 1, none⟩ (.int .i64 most)) (w.heap.size + 1) 52 #[.int .i64 pages, .int .i64 most, .slice none 0 0] := b2B.set_ 1 _
  have fC : Fr (fun q => q = w.heap.size + 1) ((w8.setCell ⟨w.heap.size, 2, none⟩ V).setCell ⟨w.heap.size + 1, 0, none⟩ (.int .i64 pages)) (((w8.setCell ⟨w.heap.size, 2, none⟩ V).setCell ⟨w.heap.size + 1, 0, none⟩ (.int .i64 pages)).setCell ⟨w.heap.size + 1, 1, none⟩ (.int .i64 most)) := (Fr.refl (fun q => q = w.heap.size + 1) _).set_ (p := ⟨w.heap.size + 1, 1, none⟩) rfl _
  have c2 := b2C.cell 2
  have d2 : (((w8.setCell ⟨w.heap.size, 2, none⟩ V).setCell ⟨w.heap.size + 1, 0, none⟩ (.int .i64 pages)).setCell ⟨w.heap.size + 1, 1, none⟩ (.int .i64 most)).frozen? ⟨w.heap.size + 1, 2, none⟩ = false := b2C.frozen 2
  have b2D : Blk ((((w8.setCell ⟨w.heap.size, 2, none⟩ V).setCell ⟨w.heap.size + 1, 0, none⟩ (.int .i64 pages)).setCell ⟨w.heap.size + 1, 1, none⟩ (.int .i64 most)).setCell ⟨w.heap.size + 1, 2, none⟩ V) (w.heap.size + 1) 52 #[.int .i64 pages, .int .i64 most, V] := b2C.set_ 2 _
  have fD : Fr (fun q => q = w.heap.size + 1) (((w8.setCell ⟨w.heap.size, 2, none⟩ V).setCell ⟨w.heap.size + 1, 0, none⟩ (.int .i64 pages)).setCell ⟨w.heap.size + 1, 1, none⟩ (.int .i64 most)) ((((w8.setCell ⟨w.heap.size, 2, none⟩ V).setCell ⟨w.heap.size + 1, 0, none⟩ (.int .i64 pages)).setCell ⟨w.heap.size + 1, 1, none⟩ (.int .i64 most)).setCell ⟨w.heap.size + 1, 2, none⟩ V) := (Fr.refl (fun q => q = w.heap.size + 1) _).set_ (p := ⟨w.heap.size + 1, 2, none⟩) rfl _
  have r0 := b2D.cell 0
  have r1 := b2D.cell 1
  have r2 := b2D.cell 2
  have F8D : Fr (fun q => q = w.heap.size ∨ q = w.heap.size + 1) w8 _ := (((fA.more (fun q hq => .inl hq)).trans (fB.more (fun q hq => .inr hq))).trans (fC.more (fun q hq => .inr hq))).trans (fD.more (fun q hq => .inr hq))
  have HF8D := Lib.hid F8D
  have HRR := Lib.hid (And.intro r0 (And.intro r1 r2))
  have hg8v : (Value.slice (some ⟨g8, 0, none⟩) (n + 1) c8).ownBlock = some g8 := rfl
  have hlt8 := ho8.lt g8 hg8v
  rw [hV] at HF8D HRR a0 a1 a2 c0 c1 c2 d0 d1 d2
  clear fA bA b2A b2B fB b2C fC b2D fD r0 r1 r2 F8D hV hg8v
  have HO8 := Lib.hid ho8
  have HF8 := Lib.hid hfw8
  have hb8 : Byt w8 B6 ln c6 l := byt_fr (byt_fr hb6 hf7 (fun _ _ _ q => q)) (Fr.grownV hg8) (fun g e h0 hq => by have h1 := hb6g g e h0; have h2 := (ho4.lt g hq).2; omega)
  have HB6 := Lib.hid (And.intro hb8 (show ∀ g, B6.map (·.block) = some g → 0 < ln → w.heap.size + 2 ≤ g from fun g e h0 => by have h1 := hb6g g e h0; omega))
  have HY1 := Lib.hid hy1
  clear hb8 hb6g
  have HY4 := Lib.hid hy4
  have HY3 := Lib.hid hy3
  have HP := Lib.hid hP
  have HB28 := Lib.hid hB28
  have HB18 := Lib.hid hB18
  subst hw7
  subst hw5
  subst hw3
  subst hw2
  subst hw1
  clear hP hA hB hBn hy1 hy2 hy3 hy4 hb1 hs1 hf1 hb2 hs2 hf2 hf3 hs3 ho3 hfw3 hys3 ho4 hg4 f4 hs4 hf5 hs5 ho5 hfw5 ho6 hg6 f6 hf7 hb7 hs6 hs7 f47 ho7 ho8 hg8 f8 hfw8 F28 hB18 hB28 hb6
  go_enter Try.func30, Try.ntmps30
  go_wp2_with (first
    | (at_builtin; refine wpList_append_run rfl (.tmp 7) (.tmp 9) 50 rfl _ _ v4 w4 rfl rfl hr4 ?_)
    | (at_builtin; refine wpList_append_run rfl (.tmp 12) (.tmp 13) 34 rfl _ _ _ w6 rfl rfl hr6 ?_)
    | (at_builtin; refine wpList_append_run rfl (.tmp 10) (.tmp 16) 50 rfl _ _ _ w8 rfl rfl hr8 ?_))
  obtain ⟨r0, r1, r2⟩ := HRR.out
  have hres : Try.f30.results = #[.cell 6 52] := rfl
  refine bodyPost_ret (v := .agg #[.int .i64 pages, .int .i64 most, .slice (some ⟨g8, 0, none⟩) (n + 1) c8]) ?_ rfl ⟨_, _, rfl, ?_, ?_, ?_⟩
  · simp [results, hres, go_sem, r0, r1, r2]
  · have hO := own_keep123 HO8.out HF8D.out (fun g hg e => by injection hg with hg; have := hlt8.1; simp at hg; omega)
    have hbb := byt_fr HB6.out.1 HF8D.out (fun g e h0 hq => by have := HB6.out.2 g e h0; omega)
    have hFf := HF8.out.trans_new HF8D.out (fun q hq => .inr (by omega))
    have hcap : n + 1 ≤ c8 ∧ c8 ≤ maxLen := by
      rcases hO.2 with ⟨e, _⟩ | ⟨g, cap, cur, e, _, _, h1, h2, _⟩
      · cases e
      · injection e with _ _ e; subst e; exact ⟨h1, h2⟩
    have hPl := HP.out.1
    refine ⟨by simp [hPl], hcap.1, hcap.2, fun _ => ⟨g8, rfl, fun i hi => ?_⟩⟩
    have k0 := hO.cellAt (i * 2) (by omega)
    have k1 := hO.cellAt (i * 2 + 1) (by omega)
    have hyl := HY1.out
    by_cases hin : i < n
    · obtain ⟨Bi, bci, u0, u1, u2, u3⟩ := HY4.out i hin
      have ep : (P ++ [(at_, l)]).getD i (0, []) = P.getD i (0, []) := by
        rw [List.getD_eq_getElem?_getD, List.getD_eq_getElem?_getD, List.getElem?_append_left (by omega)]
      rw [ep]
      rw [List.getElem?_append_left (by omega)] at k0 k1
      exact ⟨u3, k0.trans u0, Bi, bci, k1.trans u1, byt_fr u2 hFf (fun _ _ _ q => q)⟩
    · obtain rfl : i = n := by omega
      have ep : (P ++ [(at_, l)]).getD i (0, []) = (at_, l) := by
        rw [List.getD_eq_getElem?_getD, List.getElem?_append_right (by omega), hPl, Nat.sub_self]
        rfl
      rw [ep]
      rw [List.getElem?_append_right (by omega), hyl, Nat.sub_self] at k0
      rw [List.getElem?_append_right (by omega), hyl, Nat.add_sub_cancel_left] at k1
      have hll : l.length = ln := hbb.1
      refine ⟨hat, k0, B6, c6, ?_, ?_⟩
      · rw [k1, hll]; rfl
      · rw [hll]; exact hbb
  · exact HF8.out.trans_new HF8D.out (fun q hq => .inr (by omega))
  · intro K hK b off e _
    have hO := own_keep123 HO8.out HF8D.out (fun g hg e => by injection hg with hg; have := hlt8.1; simp at hg; omega)
    have hyl := HY1.out
    injection e with e
    injection e with e1 e2 _
    subst e1 e2
    refine ⟨.inr (by have := hlt8.1; omega), fun i hi B' ln' bc' hc g hg h0 => ?_⟩
    have k1 := hO.cellAt (i * 2 + 1) (by omega)
    rw [Nat.zero_add, k1] at hc
    by_cases hin : i < n
    · rw [List.getElem?_append_left (by omega)] at hc
      obtain ⟨b0, eA, _⟩ := HP.out.2.2.2 (by omega)
      have h3 := HY3.out _ eA (by omega) _ _ hc
      rw [addr_add] at h3
      exact .inl ((hK b0 0 eA (by omega)).2 i hin B' ln' bc' h3 g hg h0)
    · obtain rfl : i = n := by omega
      rw [List.getElem?_append_right (by omega), hyl, Nat.add_sub_cancel_left] at hc
      have hv : Value.slice B6 ln c6 = .slice B' ln' bc' := by simpa using hc
      injection hv with q1 q2 q3
      subst q1 q2 q3
      exact .inr (by have := HB6.out.2 g hg h0; omega)
end Go.Proofs.Ytlnffcledpccjaa
/-
  The document's Grow and Fill of a memory.
-/
namespace Go.Proofs.Ytlnffcledpccjaa
set_option linter.unusedVariables false
set_option linter.unusedSimpArgs false
open Go.ChangeShapes Go.WideShapes Go.ChangeAt
open Go.RowKit Go.Shelf
/-- a struct of three cells stored to a block -/
theorem box3 {w : World} {s : Nat} {x0 x1 x2 : Value} (h : Blk w s 52 #[x0, x1, x2]) (y0 y1 y2 : Value) :
    w.cell? ⟨s, 0, none⟩ = some x0 ∧ w.frozen? ⟨s, 0, none⟩ = false ∧ (w.setCell ⟨s, 0, none⟩ y0).cell? ⟨s, 1, none⟩ = some x1 ∧ (w.setCell ⟨s, 0, none⟩ y0).frozen? ⟨s, 1, none⟩ = false ∧
    ((w.setCell ⟨s, 0, none⟩ y0).setCell ⟨s, 1, none⟩ y1).cell? ⟨s, 2, none⟩ = some x2 ∧ ((w.setCell ⟨s, 0, none⟩ y0).setCell ⟨s, 1, none⟩ y1).frozen? ⟨s, 2, none⟩ = false ∧
    Blk (((w.setCell ⟨s, 0, none⟩ y0).setCell ⟨s, 1, none⟩ y1).setCell ⟨s, 2, none⟩ y2) s 52 #[y0, y1, y2] ∧ Fr (fun q => q = s) w (((w.setCell ⟨s, 0, none⟩ y0).setCell ⟨s, 1, none⟩ y1).setCell ⟨s, 2, none⟩ y2) := by
  have b1 : Blk (w.setCell ⟨s, 0, none⟩ y0) s 52 #[y0, x1, x2] := h.set_ 0 _
  have b2 : Blk ((w.setCell ⟨s, 0, none⟩ y0).setCell ⟨s, 1, none⟩ y1) s 52 #[y0, y1, x2] := b1.set_ 1 _
  have b3 : Blk (((w.setCell ⟨s, 0, none⟩ y0).setCell ⟨s, 1, none⟩ y1).setCell ⟨s, 2, none⟩ y2) s 52 #[y0, y1, y2] := b2.set_ 2 _
  have f1 : Fr (fun q => q = s) w (w.setCell ⟨s, 0, none⟩ y0) := (Fr.refl (fun q => q = s) _).set_ (p := ⟨s, 0, none⟩) rfl _
  have f2 : Fr (fun q => q = s) (w.setCell ⟨s, 0, none⟩ y0) ((w.setCell ⟨s, 0, none⟩ y0).setCell ⟨s, 1, none⟩ y1) := (Fr.refl (fun q => q = s) _).set_ (p := ⟨s, 1, none⟩) rfl _
  have f3 : Fr (fun q => q = s) ((w.setCell ⟨s, 0, none⟩ y0).setCell ⟨s, 1, none⟩ y1) (((w.setCell ⟨s, 0, none⟩ y0).setCell ⟨s, 1, none⟩ y1).setCell ⟨s, 2, none⟩ y2) := (Fr.refl (fun q => q = s) _).set_ (p := ⟨s, 2, none⟩) rfl _
  exact ⟨h.cell 0, h.frozen 0, b1.cell 1, b1.frozen 1, b2.cell 2, b2.frozen 2, b3, (f1.trans f2).trans f3⟩
theorem byt_ne52 {w : World} {s k c m cp : Nat} {x y : Int} {A X : Option Addr} {l : List Nat} (h : Byt w X m cp l) (hb : Blk w s 52 #[.int .i64 x, .int .i64 y, .slice A k c]) : ∀ g, X.map (·.block) = some g → 0 < m → ¬ g = s := by
  intro g e h0 hs
  subst hs
  obtain ⟨g', off, e', _, hc⟩ := h.2.2.2.2 h0
  rw [e'] at e
  simp at e
  subst e
  have := hc 0 h0
  rw [Nat.add_zero, hb.cell off] at this
  rcases off with _ | _ | _ | off <;> simp at this
theorem Puts.ne52 {w : World} {s k c n cp : Nat} {x y : Int} {A X : Option Addr} {P : List (Nat × List Nat)} (h : Puts w X n cp P) (hb : Blk w s 52 #[.int .i64 x, .int .i64 y, .slice A k c]) : ∀ b off, X = some ⟨b, off, none⟩ → 0 < n → ¬ b = s := by
  intro b off e h0 q
  subst q
  obtain ⟨b', e', h5⟩ := h.2.2.2 h0
  rw [e] at e'
  injection e' with e'
  injection e' with e1 _ _
  subst e1
  have := (h5 0 h0).c0
  rw [Nat.zero_mul, hb.cell 0] at this
  simp at this
theorem Puts.box {w w' : World} {s k c n cp : Nat} {x y : Int} {A X : Option Addr} {P : List (Nat × List Nat)} (h : Puts w X n cp P) (hb : Blk w s 52 #[.int .i64 x, .int .i64 y, .slice A k c]) (hf : Fr (fun q => q = s) w w') : Puts w' X n cp P := by
  obtain ⟨h1, h2, h3, h4⟩ := h
  refine ⟨h1, h2, h3, fun h0 => ?_⟩
  obtain ⟨b, e, h5⟩ := h4 h0
  have hbs : ¬ b = s := fun q => by
    subst q
    have := (h5 0 h0).c0
    rw [Nat.zero_mul, hb.cell 0] at this
    simp at this
  refine ⟨b, e, fun i hi => ?_⟩
  obtain ⟨B, bc, g1, g2⟩ := (h5 i hi).ex
  have hlt := lt_of_cell (h5 i hi).c0
  refine ⟨(h5 i hi).le, ?_, B, bc, ?_, byt_fr g2 hf (byt_ne52 g2 hb)⟩
  · rw [← (h5 i hi).c0]; unfold World.cell?; rw [hf.block b hlt hbs]
  · rw [← g1]; unfold World.cell?; rw [hf.block b hlt hbs]
set_option maxHeartbeats 4000000 in
set_option maxRecDepth 100000 in
theorem Grow8_no (w : World) (p q n k cp : Nat) (A : Option Addr) (hp : p ≤ 65536) (hq : q ≤ 65536) (hn : n ≤ 18446744073709551615) (hc : q - p < n) :
    Calls Try.prog 35 #[.agg #[.int .i64 p, .int .i64 q, .slice A k cp], .int .u64 n] w fun e w' => e = .returned (.tuple #[.agg #[.int .i64 p, .int .i64 q, .slice A k cp], .int .i64 0, .bool false]) ∧ Fr (fun _ => False) w w' := by
  have hmx : (if (q : Int) - (p : Int) < 0 then (0 : Int) else (q : Int) - (p : Int)) = ((q - p : Nat) : Int) := by split <;> omega
  have hmx2 : (if (0 : Int) < (q : Int) - (p : Int) then (q : Int) - (p : Int) else 0) = ((q - p : Nat) : Int) := by split <;> omega
  have hgt : decide (((q - p : Nat) : Int) < (n : Int)) = true := by simp; omega
  have hres : Try.f35.results = #[.cell 4 52, .tmp 5, .tmp 6] := rfl
  go_enter Try.func35, Try.ntmps35
  go_wp2_with fail
  refine bodyPost_ret (v := .tuple #[.agg #[.int .i64 p, .int .i64 q, .slice A k cp], .int .i64 0, .bool false]) ?_ rfl ⟨rfl, ?_⟩
  · simp [results, hres, go_sem]
  · exact ((Fr.refl _ w).alloc _).alloc _
set_option maxHeartbeats 4000000 in
set_option maxRecDepth 100000 in
theorem Grow8_ok (w : World) (p q n k cp : Nat) (A : Option Addr) (hp : p ≤ 65536) (hq : q ≤ 65536) (hc : n ≤ q - p) :
    Calls Try.prog 35 #[.agg #[.int .i64 p, .int .i64 q, .slice A k cp], .int .u64 n] w fun e w' => e = .returned (.tuple #[.agg #[.int .i64 ((p + n : Nat) : Int), .int .i64 q, .slice A k cp], .int .i64 p, .bool true]) ∧ Fr (fun _ => False) w w' := by
  have hmx : (if (q : Int) - (p : Int) < 0 then (0 : Int) else (q : Int) - (p : Int)) = ((q - p : Nat) : Int) := by split <;> omega
  have hmx2 : (if (0 : Int) < (q : Int) - (p : Int) then (q : Int) - (p : Int) else 0) = ((q - p : Nat) : Int) := by split <;> omega
  have hgt : decide (((q - p : Nat) : Int) < (n : Int)) = false := by simp; omega
  have hn : n ≤ 65536 := by omega
  have hres : Try.f35.results = #[.cell 4 52, .tmp 5, .tmp 6] := rfl
  go_enter Try.func35, Try.ntmps35
  go_wp2_with fail
  refine bodyPost_ret (v := .tuple #[.agg #[.int .i64 ((p + n : Nat) : Int), .int .i64 q, .slice A k cp], .int .i64 p, .bool true]) ?_ rfl ⟨rfl, ?_⟩
  · simp [results, hres, go_sem]
  · exact ((Fr.refl _ w).alloc _).alloc _
end Go.Proofs.Ytlnffcledpccjaa
/-
  The document's Fill of a memory.
-/
namespace Go.Proofs.Ytlnffcledpccjaa
set_option linter.unusedVariables false
set_option linter.unusedSimpArgs false
open Go.ChangeShapes Go.WideShapes Go.ChangeAt
open Go.RowKit Go.Shelf
theorem fill_step {wr : World} {s m j v : Nat} {cur : Array Value} (hb : Blk wr s 5 cur) (hcs : cur.size = m) (hlt : j < m) (hcv : ∀ t, t < j → cur[t]? = some (U8 v)) : ∃ c2 : Array Value, Blk (wr.setCell ⟨s, j, none⟩ (U8 v)) s 5 c2 ∧ c2.size = m ∧ ∀ t, t < j + 1 → c2[t]? = some (U8 v) := by
  have h1 : Blk (wr.setCell ⟨s, j, none⟩ (U8 v)) s 5 (cur.setIfInBounds j (U8 v)) := hb.set_ j (U8 v)
  refine ⟨_, h1, by rw [Array.size_setIfInBounds]; exact hcs, fun t ht => ?_⟩
  rw [Array.getElem?_setIfInBounds]
  by_cases e : j = t
  · subst e
    rw [if_pos rfl, if_pos (by omega)]
  · rw [if_neg e]
    exact hcv t (by omega)
set_option maxHeartbeats 4000000 in
set_option maxRecDepth 100000 in
theorem Fill8_ok (w : World) (pages most : Int) (A : Option Addr) (n cp at_ v m : Nat) (P : List (Nat × List Nat)) (hP : Puts w A n cp P) (hA : n = 0 → A = none ∧ cp = 0) (hv : v < 256) (hn : n ≤ 1000) (hm : m ≤ 1048576) (hat : at_ ≤ 18446744073709551615) :
    Calls Try.prog 32 #[.agg #[.int .i64 pages, .int .i64 most, .slice A n cp], .int .u64 at_, .int .u8 v, .int .i64 m] w (WrP8 pages most A n (P ++ [(at_, List.replicate m v)]) w) := by
  obtain ⟨i0, hi, hz0, hz1, hz2⟩ := info_parts info5
  have HP := Lib.hid hP
  have HA := Lib.hid hA
  clear hP hA
  go_enter Try.func32, Try.ntmps32
  obtain ⟨w1, hw1⟩ : ∃ w1, w1 = w.alloc (Obj.cells #[.int .i64 pages, .int .i64 most, .slice A n cp] 52) := ⟨_, rfl⟩
  obtain ⟨w2, hw2⟩ : ∃ w2, w2 = w1.alloc (Obj.cells #[.int .i64 0, .int .i64 0, .slice none 0 0] 52) := ⟨_, rfl⟩
  have hs1 : w1.heap.size = w.heap.size + 1 := by rw [hw1, World.size_alloc]
  have hs2 : w2.heap.size = w.heap.size + 2 := by rw [hw2, World.size_alloc, hs1]
  have hf1 : Fr (fun _ => False) w w1 := by rw [hw1]; exact (Fr.refl _ w).alloc _
  have hb1 : Blk w1 w.heap.size 52 #[.int .i64 pages, .int .i64 most, .slice A n cp] := by rw [hw1]; exact Blk.new w 52 _
  have hb2 : Blk w2 (w.heap.size + 1) 52 #[.int .i64 0, .int .i64 0, .slice none 0 0] := by rw [hw2, ← hs1]; exact Blk.new w1 52 _
  have hf2 : Fr (fun _ => False) w1 w2 := by rw [hw2]; exact (Fr.refl _ w1).alloc _
  have HB12 := Lib.hid (hb1.fr hf2 (fun q => q))
  have HB2 := Lib.hid hb2
  have HF2 := Lib.hid (hf1.trans hf2)
  have HS2 := Lib.hid hs2
  have HW : Hid (w2 = (w.alloc (Obj.cells #[.int .i64 pages, .int .i64 most, .slice A n cp] 52)).alloc (Obj.cells #[.int .i64 0, .int .i64 0, .slice none 0 0] 52)) := Lib.hid (by rw [hw2, hw1])
  clear hw1 hw2 hs1 hs2 hf1 hb1 hb2 hf2
  go_wp2_with (at_make
               rw [← HW.out]
               refine wpList_make_lc _ rfl (.tmp 11) (.tmp 11) 34 rfl 5 i0 _ Try.underlying34 hi hz0 hz1 .i64 .i64 _ _ m m rfl rfl rfl rfl (Nat.le_refl _) (by rw [hz2]; omega) (by unfold maxLen; omega) ?_
               intro w3 hg3 hbel3
               rw [HS2.out] at hg3
               rw [HS2.out]
               have hF23 : Fr (fun _ => False) w2 w3 := Fr.of_below hbel3
               have HF3 := Lib.hid (HF2.out.trans hF23)
               have HBb := Lib.hid (HB12.out.fr hF23 (fun q => q))
               have HBr := Lib.hid (HB2.out.fr hF23 (fun q => q))
               have hsz : (madeCells (Value.int .u8 0).cells m).size = m := by rw [size_madeCells]
               have HG3 : Hid (∃ cur : Array Value, Blk w3 (w.heap.size + 2) 5 cur ∧ cur.size = m ∧ ∀ t, t < 0 → cur[t]? = some (U8 v)) := Lib.hid ⟨_, hg3.out, hsz, fun t ht => absurd ht (by omega)⟩
               clear hg3 hbel3 hF23 hsz)
  go_loopw [10] (fun v10 wr => ∃ j : Nat, j ≤ m ∧ v10 = .int .i64 j ∧ Hid (∃ cur : Array Value, Blk wr (w.heap.size + 2) 5 cur ∧ cur.size = m ∧ ∀ t, t < j → cur[t]? = some (U8 v)) ∧ Hid (Blk wr w.heap.size 52 #[.int .i64 pages, .int .i64 most, .slice A n cp]) ∧ Hid (Blk wr (w.heap.size + 1) 52 #[.int .i64 0, .int .i64 0, .slice none 0 0]) ∧ Hid (Fr (fun _ => False) w wr)) (fun v10 _ => m - (intOf v10).toNat)
  case atStart => exact ⟨0, Nat.zero_le _, rfl, HG3, HBb, HBr, HF3⟩
  case round =>
    obtain ⟨j, hj, rfl, HC, HX, HR, HF⟩ := hrel
    by_cases hlt : j < m
    · obtain ⟨cur, hbc, hcs, hcv⟩ := HC.out
      have y0 := hbc.cell j
      have z0 : wr.frozen? ⟨w.heap.size + 2, j, none⟩ = false := hbc.frozen j
      have hy : ∃ u, cur[j]? = some u := ⟨_, Array.getElem?_eq_getElem (by omega)⟩
      obtain ⟨u, hu⟩ := hy
      rw [hu] at y0
      have HC' : Hid (∃ cur : Array Value, Blk (wr.setCell ⟨w.heap.size + 2, j, none⟩ (U8 v)) (w.heap.size + 2) 5 cur ∧ cur.size = m ∧ ∀ t, t < j + 1 → cur[t]? = some (U8 v)) := Lib.hid (fill_step hbc hcs hlt hcv)
      have fS : Fr (fun q => q = w.heap.size + 2) wr (wr.setCell ⟨w.heap.size + 2, j, none⟩ (U8 v)) := (Fr.refl (fun q => q = w.heap.size + 2) _).set_ (p := ⟨w.heap.size + 2, j, none⟩) rfl _
      have HX' := Lib.hid (HX.out.fr fS (by omega))
      have HR' := Lib.hid (HR.out.fr fS (by omega))
      have HF' := Lib.hid (HF.out.trans_new fS (fun q hq => .inr (by omega)))
      clear hbc fS hcv hcs hu
      go_wp2_with fail
      exact ⟨⟨j + 1, by omega, rfl, HC', HX', HR', HF'⟩, by simp [intOf]; omega⟩
    · obtain rfl : j = m := by omega
      obtain ⟨cur, hbc, hcs, hcv⟩ := HC.out
      have hby : Byt wr (some ⟨w.heap.size + 2, 0, none⟩) j j (List.replicate j v) := ⟨by simp, fun x hx => by rw [List.mem_replicate] at hx; rw [hx.2]; exact hv, Nat.le_refl _, by unfold maxLen; omega, fun h0 => ⟨_, _, rfl, hbc.lt, fun t ht => by
        rw [Nat.zero_add, hbc.cell t, hcv t ht, List.getD_eq_getElem?_getD, List.getElem?_replicate, if_pos ht]
        rfl⟩⟩
      have HWr := Lib.hid (Write8_ok wr pages most A n cp at_ j j (some ⟨w.heap.size + 2, 0, none⟩) (List.replicate j v) P (HP.out.fr HF.out) HA.out hby (fun e => by cases e) hn (by omega) hat)
      have x0 := HX.out.cell 0
      have x1 := HX.out.cell 1
      have x2 := HX.out.cell 2
      clear hbc hby hcs hcv
      go_wp2_with (go_at_call 30
                   (with_reducible refine HWr.out.mono ?_)
                   rintro e w5 ⟨A5, cp5, rfl, hP5, hF5, hK5⟩
                   have HK5 := Lib.hid hK5
                   have HP5 := Lib.hid hP5
                   have HF5 := Lib.hid hF5
                   have hB5 := HR.out.fr hF5 (fun q => q)
                   obtain ⟨c0, d0, c1, d1, c2, d2, b3, f3⟩ := box3 hB5 (.int .i64 pages) (.int .i64 most) (.slice A5 (n + 1) cp5)
                   have HBX5 := Lib.hid hB5
                   have HB3 := Lib.hid b3
                   have HF3' := Lib.hid f3
                   clear hP5 hF5 hB5 b3 f3 hK5)
      have hres : Try.f32.results = #[.cell 8 52] := rfl
      have r0 := HB3.out.cell 0
      have r1 := HB3.out.cell 1
      have r2 := HB3.out.cell 2
      refine bodyPost_ret (v := .agg #[.int .i64 pages, .int .i64 most, .slice A5 (n + 1) cp5]) ?_ rfl ⟨_, _, rfl, ?_, ?_, ?_⟩
      · simp [results, hres, go_sem, r0, r1, r2]
      · exact HP5.out.box HBX5.out HF3'.out
      · exact (HF.out.trans HF5.out).trans_new HF3'.out (fun q hq => .inr (by omega))
      · intro K hK
        have hle := HF.out.size
        exact (HK5.out K (hK.fr HP.out HF.out (fun _ _ _ _ q => q) (fun _ q => q))).fr HP5.out HF3'.out (HP5.out.ne52 HBX5.out) (fun q hq => hq.elim .inl (fun h => .inr (by omega)))
end Go.Proofs.Ytlnffcledpccjaa
/-
  What a memory holds, told by the document's rows of what was written.
-/
namespace Go.Proofs.Ytlnffcledpccjaa
set_option linter.unusedVariables false
set_option linter.unusedSimpArgs false
theorem pby_app (P : List (Nat × List Nat)) (at_ : Nat) (l : List Nat) (a : Nat) : pby (P ++ [(at_, l)]) a = if at_ ≤ a ∧ a - at_ < l.length then l.getD (a - at_) 0 else pby P a := by
  unfold pby
  rw [List.reverse_append, List.reverse_cons, List.reverse_nil, List.nil_append, List.singleton_append, pbr]
/-- the contents of page x.2 of memory x.1 -/
def con8 (Ps : Nat → List (Nat × List Nat)) (sz : Nat) (x : Nat × Nat) : List Nat := (List.range sz).map fun i => pby (Ps x.1) (x.2 * sz + i)
def ext8 (Ps : Nat → List (Nat × List Nat)) (num at_ : Nat) (l : List Nat) (k : Nat) : List (Nat × List Nat) := if k = num then Ps k ++ [(at_, l)] else Ps k
theorem con8_wrm (Ps : Nat → List (Nat × List Nat)) (sz num at_ : Nat) (l : List Nat) : wrm (con8 Ps sz) num sz at_ l l.length = con8 (ext8 Ps num at_ l) sz := by
  funext x
  unfold wrm
  by_cases hx : x.1 = num
  · rw [if_pos hx]
    unfold con8 ext8
    rw [if_pos hx]
    refine List.map_congr_left fun i hi => ?_
    have hi' := List.mem_range.1 hi
    have hg : ((List.range sz).map fun i => pby (Ps x.1) (x.2 * sz + i)).getD i 0 = pby (Ps x.1) (x.2 * sz + i) := by
      rw [List.getD_eq_getElem?_getD, List.getElem?_map, List.getElem?_range hi']
      rfl
    rw [hg, pby_app]
    generalize x.2 * sz + i = q
    by_cases h : at_ ≤ q ∧ q < at_ + l.length
    · rw [if_pos h, if_pos ⟨h.1, by omega⟩]
    · rw [if_neg h, if_neg (fun h' => h ⟨h'.1, by omega⟩)]
  · rw [if_neg hx]
    unfold con8 ext8
    rw [if_neg hx]
theorem con8_nil (sz : Nat) : con8 (fun _ => []) sz = fun _ => List.replicate sz 0 := by
  funext x
  unfold con8
  apply List.ext_getElem?
  intro i
  rw [List.getElem?_map, List.getElem?_replicate]
  by_cases h : i < sz
  · rw [List.getElem?_range h, if_pos h]; rfl
  · rw [if_neg h, List.getElem?_eq_none (by simp; omega)]; rfl
theorem mbs_con8 (Ps : Nat → List (Nat × List Nat)) (sz num place n : Nat) (h : 0 < sz) : mbs (con8 Ps sz) num sz place n = rdL (Ps num) place n := by
  unfold mbs rdL
  refine List.map_congr_left fun i _ => ?_
  unfold mby con8
  rw [List.getD_eq_getElem?_getD, List.getElem?_map, List.getElem?_range (Nat.mod_lt _ h)]
  show pby (Ps num) ((place + i) / sz * sz + (place + i) % sz) = _
  rw [Nat.mul_comm, Nat.div_add_mod]
end Go.Proofs.Ytlnffcledpccjaa
