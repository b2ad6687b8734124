/-
  types.ParseSig.
-/
import Derived.Test.YtalpkdnnclghaaaDoorNh
namespace Go.Proofs.YtalpkdnnclghaaaDoor
open Go.RowKit Go.ChangeShapes Go.WideShapes Go.ChangeAt
set_option linter.unusedVariables false
set_option linter.unusedSimpArgs false
/-- a signature's two lists -/
def sgO : Bool → Option (List Nat) → Option (List Nat) → Option (List Nat × List Nat)
  | true, some p, some r => some (p, r)
  | _, _, _ => none
def sgL (s : List UInt8) : Option (List Nat × List Nat) := sgO (Lib.cut s [45, 62]).2.2 (psL (Lib.cut s [45, 62]).1) (psL (Lib.cut s [45, 62]).2.1)
def SgP (o : Option (List Nat × List Nat)) (w : World) (e : Ending) (w' : World) : Prop :=
  ∃ v1 v2, e = .returned (.tuple #[.agg #[v1, v2], .int .i64 (if o.isSome then 0 else 4)]) ∧ w'.ownsRow w.heap.size 51 1 v1 ((o.getD ([], [])).1).length (((o.getD ([], [])).1).map U8) ∧ w'.ownsRow w.heap.size 51 1 v2 ((o.getD ([], [])).2).length (((o.getD ([], [])).2).map U8) ∧ Below w.heap.size w w'
theorem slice_of {W : World} {B E : Nat} {v : Value} {n : Nat} {xs : List Value} (h : W.ownsRow B E 1 v n xs) : ∃ A m c, v = .slice A m c := by
  rcases h.2 with ⟨e, _⟩ | ⟨g, cap, cur, e, _⟩
  · exact ⟨_, _, _, e⟩
  · exact ⟨_, _, _, e⟩
theorem own_up {W W' : World} {B B' E : Nat} {v : Value} {n : Nat} {xs : List Value} (h : W.ownsRow B E 1 v n xs) (hb : Below W.heap.size W W') (hB : B' ≤ B) : W'.ownsRow B' E 1 v n xs := by
  refine ⟨h.1, ?_⟩
  rcases h.2 with h2 | ⟨g, cap, cur, e, h3, hg, rest⟩
  · exact .inl h2
  · exact .inr ⟨g, cap, cur, e, Nat.le_trans hB h3, (hb.block g (Blk.lt (t := E) (cs := cur) hg)).trans hg, rest⟩
theorem sig_end {w w3 : World} {X Y : Value} (h : Blk w3 w.heap.size 27 #[.slice none 0 0, .slice none 0 0]) (hb : Below w.heap.size w w3) :
    ((w3.setCell ⟨w.heap.size, 0, none⟩ X).setCell ⟨w.heap.size, 1, none⟩ Y).cell? ⟨w.heap.size, 0, none⟩ = some X ∧
    ((w3.setCell ⟨w.heap.size, 0, none⟩ X).setCell ⟨w.heap.size, 1, none⟩ Y).cell? ⟨w.heap.size, 1, none⟩ = some Y ∧
    (∀ B v n xs, w3.ownsRow B 51 1 v n xs → ((w3.setCell ⟨w.heap.size, 0, none⟩ X).setCell ⟨w.heap.size, 1, none⟩ Y).ownsRow B 51 1 v n xs) ∧
    Below w.heap.size w ((w3.setCell ⟨w.heap.size, 0, none⟩ X).setCell ⟨w.heap.size, 1, none⟩ Y) := by
  have hf : Fr (fun q => q = w.heap.size) w3 ((w3.setCell ⟨w.heap.size, 0, none⟩ X).setCell ⟨w.heap.size, 1, none⟩ Y) := ((Fr.refl (fun q => q = w.heap.size) w3).set_ (p := ⟨w.heap.size, 0, none⟩) rfl _).set_ (p := ⟨w.heap.size, 1, none⟩) rfl _
  have hk := (h.set_ 0 X).set_ 1 Y
  refine ⟨hk.cell 0, hk.cell 1, fun B v n xs ho => own_frD ho hf (fun q hq e => ?_), hf.below hb hb.size (fun k hk => by omega)⟩
  rcases ho.2 with ⟨e2, _⟩ | ⟨g, cap, cur, e2, _, hg, _⟩
  · rw [e2] at e; cases e
  · rw [e2] at e; cases e
    exact Blk.ne_ (show Blk w3 g 51 cur from hg) h (by decide) hq
set_option maxHeartbeats 2000000 in
set_option maxRecDepth 100000 in
theorem ParseSig_gen (s a c : List UInt8) (fd : Bool) (oa oc : Option (List Nat)) (w : World)
    (hp : ∀ W, Calls Tryd.prog 45 #[.string ⟨a.toArray⟩] W (PrP oa W)) (hq : ∀ W, Calls Tryd.prog 45 #[.string ⟨c.toArray⟩] W (PrP oc W))
    (hcut : ∀ W, Below w.heap.size w W → Calls Tryd.prog 44 #[.string ⟨s.toArray⟩, .string ⟨#[45, 62]⟩] W fun e w' => e = .returned (.tuple #[.string ⟨a.toArray⟩, .string ⟨c.toArray⟩, .bool fd]) ∧ ∃ n, w' = W.drewN n) :
    Calls Tryd.prog 16 #[.string ⟨s.toArray⟩] w (SgP (sgO fd oa oc) w) := by
  have HP := Lib.hid hp
  have HQ := Lib.hid hq
  have HC := Lib.hid (hcut (w.alloc (.cells #[.slice none 0 0, .slice none 0 0] 27)) ((Below.refl _ w).alloc (Nat.le_refl _) _))
  clear hcut hp hq
  go_enter Tryd.func16, Tryd.ntmps16
  go_wp2_with (go_at_call 44; with_reducible refine HC.out.mono ?_; rintro e w1 ⟨rfl, n, rfl⟩)
  refine (HP.out _).mono ?_
  rintro e w2 ⟨v1, rfl, o1, b1⟩
  obtain ⟨A1, m1, c1, rfl⟩ := slice_of o1
  have hw2 : w.heap.size < w2.heap.size := by have := b1.size; simp at this; omega
  have hk2 : Blk w2 w.heap.size 27 #[.slice none 0 0, .slice none 0 0] := ((Blk.new w 27 _).drewN n).below b1 (by simp)
  have hd1 : Below w.heap.size w ((w.alloc (.cells #[.slice none 0 0, .slice none 0 0] 27)).drewN n) := by
    have h1 := (Below.refl w.heap.size w).alloc (Nat.le_refl _) (.cells #[.slice none 0 0, .slice none 0 0] 27)
    exact h1.trans ⟨rfl, rfl, rfl, Nat.le_refl _, fun _ _ => rfl⟩
  have hb2 : Below w.heap.size w w2 := hd1.trans (b1.mono hd1.size)
  have ho2 := own_less o1 (show w.heap.size ≤ _ by simp)
  have HK2 := Lib.hid (And.intro hk2 (And.intro hb2 ho2))
  clear o1 b1 HP hk2 hb2 ho2 hd1
  go_wp2_with fail
  refine (HQ.out _).mono ?_
  rintro e w3 ⟨v2, rfl, o2, b2⟩
  obtain ⟨A2, m2, c2, rfl⟩ := slice_of o2
  obtain ⟨hk2, hb2, ho2⟩ := HK2.out
  have hk3 := hk2.below b2 hw2
  have x0 : w3.cell? ⟨w.heap.size, 0, none⟩ = some (.slice none 0 0) := hk3.cell 0
  have x1 : w3.cell? ⟨w.heap.size, 1, none⟩ = some (.slice none 0 0) := hk3.cell 1
  have z0 := hk3.frozen 0
  have z1 := hk3.frozen 1
  have HK3 := Lib.hid (And.intro hk3 (And.intro (hb2.trans (b2.mono (Nat.le_of_lt hw2))) (And.intro (own_up ho2 b2 (Nat.le_refl _)) (own_less o2 (Nat.le_of_lt hw2)))))
  clear o2 b2 hk2 hb2 ho2 hk3 HK2 HQ HC hw2
  cases oa <;> cases oc <;> cases fd
  all_goals
    go_wp2
    obtain ⟨hk3, hb3, ho3, hq3⟩ := HK3.out
    have fin := fun X Y => sig_end hk3 (X := X) (Y := Y) hb3
  all_goals first
    | (obtain ⟨f0, f1, f2, f3⟩ := fin (.slice none 0 0) (.slice none 0 0)
       refine bodyPost_ret (v := .tuple #[.agg #[.slice none 0 0, .slice none 0 0], .int .i64 4]) ?_ rfl ?_
       · simp [results, go_sem, f0, f1]
       · exact ⟨_, _, rfl, World.ownsRow_nil _ _ _ _, World.ownsRow_nil _ _ _ _, f3⟩)
    | (obtain ⟨f0, f1, f2, f3⟩ := fin (.slice A1 m1 c1) (.slice A2 m2 c2)
       refine bodyPost_ret (v := .tuple #[.agg #[.slice A1 m1 c1, .slice A2 m2 c2], .int .i64 0]) ?_ rfl ?_
       · simp [results, go_sem, f0, f1]
       · exact ⟨_, _, rfl, f2 _ _ _ _ ho3, f2 _ _ _ _ hq3, f3⟩)
end Go.Proofs.YtalpkdnnclghaaaDoor
