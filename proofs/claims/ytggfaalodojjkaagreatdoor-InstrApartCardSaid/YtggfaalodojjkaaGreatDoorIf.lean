/-
  instr: the op of an instruction: the whole.
-/
import Derived.Test.YtggfaalodojjkaaGreatDoorIe
namespace Go.Proofs.YtggfaalodojjkaaGreatDoor
open Go.RowKit
set_option linter.unusedVariables false
set_option linter.unusedSimpArgs false
theorem rw_of {code : Int} {k : Nat} {r : Rw} (h : RowOf code k r) : r ∈ RW := List.mem_of_getElem? h.1
theorem row_first {code : Int} {k : Nat} {r : Rw} (h : RowOf code k r) : (r.first : Int) + ((code - r.first).toNat : Int) = code := by have := h.2.1; omega
theorem own_far {base E size g : Nat} {w : World} {v : Value} {n t : Nat} {xs : List Value} {cs cs' : Array Value} (h : w.ownsRow base E size v n xs) (hg : Blk w g t cs) (ht : t ≠ E) : (w.setRow g cs').ownsRow base E size v n xs :=
  own_fr h (fr_setRow w g cs') (fun k hk e => by
    obtain ⟨cu, hcu⟩ := own_ty h hk
    exact hcu.ne_ hg (fun e2 => ht e2.symm) e)
theorem InfAt.far {w : World} {B g t : Nat} {r : Rw} {i : Nat} {At Ag : Option Addr} {ct cg : Nat} {cs cs' : Array Value} (h : InfAt w B r i At ct Ag cg) (hg : Blk w g t cs) (ht : t ≠ 113) : InfAt (w.setRow g cs') B r i At ct Ag cg := ⟨own_far h.1 hg ht, own_far h.2 hg ht⟩
theorem InfAt.below {w w' : World} {B : Nat} {r : Rw} {i : Nat} {At Ag : Option Addr} {ct cg : Nat} (h : InfAt w B r i At ct Ag cg) (hb : Below w.heap.size w w') : InfAt w' B r i At ct Ag cg := ⟨own_kept h.1 hb, own_kept h.2 hb⟩
theorem InfAt.less {w : World} {B B' : Nat} {r : Rw} {i : Nat} {At Ag : Option Addr} {ct cg : Nat} (h : InfAt w B r i At ct Ag cg) (hB : B' ≤ B) : InfAt w B' r i At ct Ag cg := ⟨own_base h.1 hB, own_base h.2 hB⟩
theorem InfAt.len {w : World} {B : Nat} {r : Rw} {i : Nat} {At Ag : Option Addr} {ct cg : Nat} (h : InfAt w B r i At ct Ag cg) : r.takes.length ≤ ct ∧ ct ≤ 9223372036854775807 ∧ r.gives.length ≤ cg ∧ cg ≤ 9223372036854775807 := by
  obtain ⟨A1, c1, e1, t1, t2, t3⟩ := byt_own113 h.1 rfl
  obtain ⟨A2, c2, e2, g1, g2, g3⟩ := byt_own113 h.2 rfl
  cases e1
  cases e2
  unfold maxLen at t2 g2
  exact ⟨t1, t2, g1, g2⟩
set_option maxHeartbeats 4000000 in
set_option maxRecDepth 100000 in
theorem op_ok (x : In) (A : Option Addr) (c : Nat) (w : World) (hT : Tb w) (hcd : (Lit.int .i64 x.cd).wf = true) (hl : Sl w A x.l.length c x.l) (hn : x.l.length ≤ 200000) :
    Calls Tryz.prog 29 #[.agg (I5 x (.slice A x.l.length c)).toArray] w (OpPost x w) := by
  obtain ⟨cd, a, b, al, l⟩ := x
  unfold I5
  dsimp only at hl hn hcd ⊢
  have c1 := hl.2.1
  have c2 := hl.2.2.1
  unfold maxLen at c2
  have hsz := hT.size
  have HBK := Lib.hid (fun V => blockType_ok a V)
  rcases Classical.em (∃ k r, RowOf cd k r ∧ (cd - r.first).toNat < (Lib.fields r.names).length) with ⟨k, r, hk, hi⟩ | hno
  · have hmem := rw_of hk
    have hfi := row_first hk
    refine op29_walk cd a b al A c l.length c1 c2 w _ (fun At ct Ag cg W => InfAt W w.heap.size r (cd - r.first).toNat At ct Ag cg) ((r.first : Int) + ((cd - r.first).toNat : Int)) (r.form : Nat) (nmS r (cd - r.first).toNat) r.takes.length r.gives.length true (wiB ⟨cd, a, b, al, l⟩ (bnR r)) (bkB a) (riB ⟨cd, a, b, al, l⟩ r) (bnR r).a (bnR r).b (bnR r).al (bnR r).lb ?_ (Lib.hid fun W hW => ?_) (Lib.hid fun _ At ct Ag cg w1 hG V hV => ?_) (Lib.hid fun _ V hV => ?_) HBK (Lib.hid fun hok V hV => ?_) (Lib.hid fun hok At ct Ag cg w1 V hG hV hz hB => ?_)
    · unfold riB
      rw [Bool.true_and]
      have : decide (((r.form : Nat) : Int) = 1) = decide (r.form = 1) := by simp; omega
      rw [this]
    · refine (Find_any cd hcd W (hT.below hW hsz)).mono ?_
      intro e w' h
      rcases h with ⟨h1, _⟩ | ⟨k', r', hk', h⟩
      · have := hk.2.1; omega
      · obtain ⟨rfl, rfl⟩ := RowOf.uniq hk hk'
        rcases h with ⟨h1, _⟩ | ⟨_, At, ct, Ag, cg, rfl, h1, h2, h3⟩
        · omega
        · have hI : InfAt w' w.heap.size r (cd - r.first).toNat At ct Ag cg := InfAt.less ⟨h1, h2⟩ hW.size
          obtain ⟨q1, q2, q3, q4⟩ := hI.len
          exact ⟨At, ct, Ag, cg, q1, q2, q3, q4, rfl, h3, hI⟩
    · exact boundR_ok r hmem _ w.heap.size At ct Ag cg V (hG.below hV)
    · exact within_ok cd a b al A c l _ _ _ _ hn V (hl.below hV)
    · refine ⟨hV, .inl ⟨rfl, fun r' hr' => ?_⟩⟩
      obtain ⟨k', hk', _, hr⟩ := hr'
      obtain ⟨rfl, rfl⟩ := RowOf.uniq hk hk'
      rw [hok] at hr
      cases hr
    · refine ⟨hB, .inr ⟨r, At, ct, Ag, cg, ⟨k, hk, hi, hok⟩, rfl, ?_⟩⟩
      exact (hG.below hV).far hz (by decide)
  · refine op29_walk cd a b al A c l.length c1 c2 w _ (fun _ _ _ _ _ => True) 0 0 ⟨#[]⟩ 0 0 false false (bkB a) false 0 0 0 0 rfl (Lib.hid fun W hW => ?_) (Lib.hid fun h => absurd h (by decide)) (Lib.hid fun h => absurd h (by decide)) HBK (Lib.hid fun hok V hV => ?_) (Lib.hid fun h => absurd h (by decide))
    · refine (Find_any cd hcd W (hT.below hW hsz)).mono ?_
      intro e w' h
      have key : NoPost W e w' := by
        rcases h with ⟨_, h1⟩ | ⟨k', r', hk', h⟩
        · exact h1
        · rcases h with ⟨_, h1⟩ | ⟨h1, _⟩
          · exact h1
          · exact absurd ⟨k', r', hk', h1⟩ hno
      obtain ⟨rfl, hb⟩ := key
      exact ⟨none, 0, none, 0, Nat.le_refl _, by decide, Nat.le_refl _, by decide, rfl, hb, trivial⟩
    · refine ⟨hV, .inl ⟨rfl, fun r' hr' => ?_⟩⟩
      obtain ⟨k', hk', h1, _⟩ := hr'
      exact hno ⟨k', r', hk', h1⟩
end Go.Proofs.YtggfaalodojjkaaGreatDoor
