/-
  A row of frames that a call has made; the pieces of a function's text; what is known in a round of FramePlays.
-/
import Derived.Test.YthfdblpodnodcaaVa
import Derived.OwnWalk
import Derived.Laws.OwnMore
import Derived.Maps.AppendAt
namespace Go.Proofs.Ythfdblpodnodcaa
open Go.RowKit
set_option linter.unusedVariables false
theorem ownG_ty {base E size : Nat} {w : World} {v : Value} {n k : Nat} {xs : List Value} (h : w.ownsRow base E size v n xs) (hk : v.ownBlock = some k) : ∃ cs, Blk w k E cs := by
  rcases h.2 with ⟨e, _⟩ | ⟨g, cap, cur, e, _, hg, _⟩
  · rw [e] at hk; cases hk
  · rw [e] at hk; cases hk; exact ⟨cur, hg⟩
theorem ownG_base {base E size : Nat} {w : World} {v : Value} {n k : Nat} {xs : List Value} (h : w.ownsRow base E size v n xs) (hk : v.ownBlock = some k) : base ≤ k := by
  rcases h.2 with ⟨e, _⟩ | ⟨g, cap, cur, e, hb, hg, _⟩
  · rw [e] at hk; cases hk
  · rw [e] at hk; cases hk; exact hb
theorem ownG_fr {S : Nat → Prop} {base E size : Nat} {w w' : World} {v : Value} {n : Nat} {xs : List Value} (h : w.ownsRow base E size v n xs) (hf : Fr S w w') (hne : ∀ k, v.ownBlock = some k → ¬ S k) : w'.ownsRow base E size v n xs := by
  refine ⟨h.1, ?_⟩
  rcases h.2 with h2 | ⟨g, cap, cur, e, hB, hg, rest⟩
  · exact .inl h2
  · exact .inr ⟨g, cap, cur, e, hB, hf.keep hg (hne g (by rw [e]; rfl)), rest⟩
theorem ownG_mv {base E size : Nat} {w w' : World} {v : Value} {n : Nat} {xs : List Value} (h : w.ownsRow base E size v n xs) (hb : Below w.heap.size w w') : w'.ownsRow base E size v n xs :=
  ownG_fr h (Fr.of_below (S := fun _ => False) hb) (fun _ _ q => q)
theorem ownG_some {base E size : Nat} {w : World} {v : Value} {n : Nat} {xs : List Value} (h : w.ownsRow base E size v n xs) (hn : 0 < n) : ∃ g cp, v = .slice (some ⟨g, 0, none⟩) n cp ∧ n ≤ cp ∧ cp ≤ maxLen := by
  rcases h.2 with ⟨e, h0⟩ | ⟨g, cap, cur, e, _, _, hc, hm, _⟩
  · omega
  · exact ⟨g, cap, e, hc, hm⟩
theorem ownG_slice {base E size : Nat} {w : World} {v : Value} {n : Nat} {xs : List Value} (h : w.ownsRow base E size v n xs) : ∃ A cp, v = .slice A n cp ∧ n ≤ cp ∧ cp ≤ maxLen := by
  rcases h.2 with ⟨e, h0⟩ | ⟨g, cap, cur, e, _, _, hc, hm, _⟩
  · subst h0; exact ⟨_, _, e, Nat.le_refl _, Nat.zero_le _⟩
  · exact ⟨_, _, e, hc, hm⟩
theorem ownG_nil {base E size : Nat} (w : World) : w.ownsRow base E size (.slice none 0 0) 0 [] := ⟨by simp, .inl ⟨rfl, rfl⟩⟩
theorem ownG_empty {base E size g : Nat} {w : World} (hg : Blk w g E #[]) (hb : base ≤ g) : w.ownsRow base E size (.slice (some ⟨g, 0, none⟩) 0 0) 0 [] :=
  ⟨by simp, .inr ⟨g, 0, #[], rfl, hb, hg, Nat.le_refl _, Nat.zero_le _, by simp, by simp⟩⟩
theorem FrGrown {w w' : World} {o : Option Nat} (h : w.grownBy w' o) : Fr (fun k => o = some k) w w' := ⟨h.os, h.tape, h.output, h.size, fun i hi hs => h.block i hi (fun e => hs e.symm)⟩
theorem wpList_append_run {P : Program} {w : World} {ops : Array Oper} {rest : List Oper} {o : Oper} {a : Act} {Q : Exit → Act → World → Prop} (hgd : o.guard = none) (s x : Operand) (T : TypeId)
    (ho : o.op = .call { callee := .builtin .append, args := #[s, x], argTypes := #[T, T] }) (v xv v' : Value) (w' : World) (hs : a.eval s = v) (hx : a.eval x = xv)
    (hrun : Hid (∀ ty, (Builtin.append_ #[T, T] ty #[v, xv]).run P w = .ok v' w')) (h : wpList P ops Q rest (a.put o.dst v') w') : wpList P ops Q (o :: rest) a w := by
  refine wpList_plain hgd fun K hK => ?_
  have hrun := hrun.out o.type
  unfold Oper.wp
  simp [execOp, ho, resolve, invoke, builtin, hs, hx, hrun, Result.andThen]
  exact hK _ _ h
theorem info58 : (Try.prog.info? 58).map (fun i => (i.zero, i.size, i.bytes)) = some (some (.agg #[.int .i64 0, .int .i64 0, .int .i64 0]), 3, 24) := by kernel_rfl
theorem app_run58 {w : World} {B n m c : Nat} {v : Value} {xs ys : List Value} {X : Addr} (hown : w.ownsRow B 58 3 v n xs) (hl : ys.length = m * 3) (hys : ∀ j u, ys[j]? = some u → w.cell? (X.add j) = some u) (h1 : ∀ u ∈ ys, u.oneCell' = true) (hnm : n + m ≤ 1000000) (hB : B ≤ w.heap.size) :
    ∃ v' w', Hid (∀ ty, (Builtin.append_ #[56, 56] ty #[v, .slice (some X) m c]).run Try.prog w = .ok v' w') ∧ w'.ownsRow B 58 3 v' (n + m) (xs ++ ys) ∧ w.grownBy w' v.ownBlock := by
  obtain ⟨i0, hi, hz0, hz1, hz2⟩ := info_parts info58
  obtain ⟨v', w', h, h2, h3, _⟩ := run_append_own_at (P := Try.prog) w B 56 56 58 i0 _ 3 24 Try.underlying56 hi hz0 hz1 hz2 rfl (by decide) v n xs hown X m c ys hl hys h1 (by unfold maxLen; omega) (by omega) hB
  exact ⟨v', w', Lib.hid (fun ty => h), h2, h3⟩
/-- n frames, as cells -/
def rowsF (F : Nat → Nat × Nat × Nat) (n : Nat) : List Value := (List.range n).flatMap fun j => [.int .i64 (F j).1, .int .i64 (F j).2.1, .int .i64 (F j).2.2]
theorem rowsF_succ (F : Nat → Nat × Nat × Nat) (n : Nat) : rowsF F (n + 1) = rowsF F n ++ [.int .i64 (F n).1, .int .i64 (F n).2.1, .int .i64 (F n).2.2] := by
  simp [rowsF, List.range_succ]
theorem rowsF_len (F : Nat → Nat × Nat × Nat) : ∀ n, (rowsF F n).length = n * 3
  | 0 => rfl
  | n + 1 => by rw [rowsF_succ, List.length_append, rowsF_len F n]; simp; omega
theorem rowsF_congr {F G : Nat → Nat × Nat × Nat} : ∀ n, (∀ j, j < n → F j = G j) → rowsF F n = rowsF G n
  | 0, _ => rfl
  | n + 1, h => by rw [rowsF_succ, rowsF_succ, rowsF_congr n (fun j hj => h j (by omega)), h n (by omega)]
theorem rowsF_take (F : Nat → Nat × Nat × Nat) (n : Nat) : (rowsF F (n + 1)).take (n * 3) = rowsF F n := by
  rw [rowsF_succ, List.take_left' (rowsF_len F n)]
theorem rowsF_top (F : Nat → Nat × Nat × Nat) (n : Nat) : (rowsF F (n + 1))[n * 3]? = some (.int .i64 (F n).1) ∧ (rowsF F (n + 1))[n * 3 + 1]? = some (.int .i64 (F n).2.1) ∧ (rowsF F (n + 1))[n * 3 + 2]? = some (.int .i64 (F n).2.2) := by
  have h := rowsF_len F n
  rw [rowsF_succ]
  refine ⟨?_, ?_, ?_⟩
  · rw [List.getElem?_append_right (by omega), h, Nat.sub_self]; rfl
  · rw [List.getElem?_append_right (by omega), h, show n * 3 + 1 - n * 3 = 1 by omega]; rfl
  · rw [List.getElem?_append_right (by omega), h, show n * 3 + 2 - n * 3 = 2 by omega]; rfl
theorem rowsF_at (F : Nat → Nat × Nat × Nat) (j : Nat) : ∀ n, j < n → (rowsF F n)[j * 3]? = some (.int .i64 (F j).1) ∧ (rowsF F n)[j * 3 + 1]? = some (.int .i64 (F j).2.1) ∧ (rowsF F n)[j * 3 + 2]? = some (.int .i64 (F j).2.2)
  | 0, h => by omega
  | n + 1, h => by
    by_cases e : j = n
    · subst e; exact rowsF_top F j
    · obtain ⟨h0, h1, h2⟩ := rowsF_at F j n (by omega)
      have hl := rowsF_len F n
      rw [rowsF_succ]
      exact ⟨(List.getElem?_append_left (by omega)).trans h0, (List.getElem?_append_left (by omega)).trans h1, (List.getElem?_append_left (by omega)).trans h2⟩
theorem rowsF_one (F : Nat → Nat × Nat × Nat) (n : Nat) : ∀ u ∈ rowsF F n, u.oneCell' = true := by
  intro u hu
  unfold rowsF at hu
  rw [List.mem_flatMap] at hu
  obtain ⟨j, _, h⟩ := hu
  simp at h
  rcases h with rfl | rfl | rfl <;> rfl
/-- the text from block n on -/
def fromBlk (n : Nat) : Code → Option Code
  | .block i c => if i = n then some (.block i c) else fromBlk n c
  | .seq a b => match fromBlk n a with
    | some c => some c
    | none => fromBlk n b
  | .loop c => fromBlk n c
  | .scope c => fromBlk n c
  | .cond _ a b => match fromBlk n a with
    | some c => some c
    | none => fromBlk n b
  | _ => none
noncomputable def fpBlk (n : Nat) : Code := ((Try.f8.body.bind (fromBlk n)).getD .skip)
section
variable {w w' : World} {a bb rm gm : Nat} {d : Ad} {s at_ most h : Nat} {B n : Nat} {v : Value} {xs : List Value}
theorem own58_step (H : FkI w a bb rm gm d s at_ most h) (ho : w.ownsRow B 58 3 v n xs) (hf : Fr (fun k => k = bb ∨ k = s) w w') : w'.ownsRow B 58 3 v n xs :=
  ownG_fr ho hf (fun k hk => by
    obtain ⟨cs, hcs⟩ := ownG_ty ho hk
    rintro (q | q)
    · rw [q] at hcs; exact hcs.ne_ H.are.byt (by decide) rfl
    · rw [q] at hcs; exact hcs.ne_ H.blk (by decide) rfl)
theorem FkI.fr58 {S : Nat → Prop} (H : FkI w a bb rm gm d s at_ most h) (hf : Fr S w w') (hS : ∀ k, S k → ∃ cs, Blk w k 58 cs) : FkI w' a bb rm gm d s at_ most h := by
  refine ⟨H.are.fr hf ?_, H.blk.fr hf (fun q => ?_), H.hh, H.hc, H.room⟩
  · intro k hk q
    obtain ⟨cs, hg⟩ := hS k q
    rcases hk with q | q | q | q | ⟨c, hc, q⟩
    · rw [q] at hg; exact hg.ne_ H.are.blk (by decide) rfl
    · rw [q] at hg; exact hg.ne_ H.are.byt (by decide) rfl
    · obtain ⟨n, _, hi⟩ := H.are.rooms
      rw [q] at hg
      exact hi.ne_ hg rfl
    · obtain ⟨n, _, hi⟩ := H.are.given
      rw [q] at hg
      exact hi.ne_ hg rfl
    · obtain ⟨g', cap, cur, e, hg', _⟩ := H.are.row hc
      rw [e] at q
      simp only [Value.ownBlock, Option.some.injEq] at q
      rw [← q] at hg
      exact hg'.ne_ hg (by decide) rfl
  · obtain ⟨cs, hg⟩ := hS s q
    exact hg.ne_ H.blk (by decide) rfl
theorem FkI.grown (H : FkI w a bb rm gm d s at_ most h) (ho : w.ownsRow B 58 3 v n xs) (hg : w.grownBy w' v.ownBlock) : FkI w' a bb rm gm d s at_ most h :=
  H.fr58 (FrGrown hg) (fun k hk => ownG_ty ho hk)
theorem Lo.grown {w0 : World} (H : Lo w0 w bb s) (ho : w.ownsRow w0.heap.size 58 3 v n xs) (hg : w.grownBy w' v.ownBlock) : Lo w0 w' bb s :=
  ⟨(FrGrown hg).below H.bel H.bel.size (fun k hk => ownG_base ho hk), H.hb, H.hs⟩
end
/-- what is known in a round: the frames, the row m, where all lies -/
structure FPI (w0 w : World) (a bb rm gm s most : Nat) (D : Ad) (n : Nat) (F : Nat → Nat × Nat × Nat) (v : Value) : Prop where
  fk : ∃ M, FkI w a bb rm gm { D with mem := M } s 0 most n ∧ FCon { D with mem := M } 0 n F
  rt : ∀ j, j < n → Rt (F j)
  own : w.ownsRow w0.heap.size 58 3 v n (rowsF F n)
  lo : Lo w0 w bb s
theorem FPI.mv {w0 w w' : World} {a bb rm gm s most n : Nat} {D : Ad} {F : Nat → Nat × Nat × Nat} {v : Value} (H : FPI w0 w a bb rm gm s most D n F v) (hb : Below w.heap.size w w') : FPI w0 w' a bb rm gm s most D n F v := by
  obtain ⟨M, h1, h2⟩ := H.fk
  exact ⟨⟨M, h1.below hb, h2⟩, H.rt, ownG_mv H.own hb, H.lo.mv hb⟩
end Go.Proofs.Ythfdblpodnodcaa
