/-
  clear on a part of a row; classes of rooms; what is known of an arena.
-/
import Derived.Test.YtahbnhhdpcieiaaGreatDoorC
import Derived.Lib.SliceRun
import Derived.Laws.IdiomCopy
import Derived.Laws.OwnMore
import Derived.Maps.AppendAt
namespace Go.Proofs.YtahbnhhdpcieiaaGreatDoor
open Go.RowKit
set_option linter.unusedVariables false
def setMany' : List Value → Nat → List Value → List Value
  | L, _, [] => L
  | L, o, v :: r => setMany' (L.set o v) (o + 1) r
theorem setMany'_splice : ∀ (vs : List Value) (L : List Value) (o : Nat), o + vs.length ≤ L.length → setMany' L o vs = splice L o vs := by
  intro vs
  induction vs with
  | nil => intro L o _; simp [setMany', splice]
  | cons v r ih =>
    intro L o h
    simp only [List.length_cons] at h
    unfold setMany'
    rw [ih (L.set o v) (o + 1) (by simp; omega)]
    unfold splice
    rw [List.take_set, List.drop_set_of_lt (by omega), List.take_succ_eq_append_getElem (by omega : o < L.length)]
    rw [List.set_append_right _ _ (by simp; omega)]
    simp only [List.length_take, List.length_cons]
    have : o - min o L.length = 0 := by omega
    rw [this]
    simp only [List.set_cons_zero, List.append_assoc, List.cons_append, List.nil_append]
    congr 4
    omega
theorem blk_setCells {g : Nat} {t : TypeId} : ∀ (vs : List Value) (o : Nat) (w : World) (L : List Value), Blk w g t L.toArray → Blk (w.setCells g o vs) g t (setMany' L o vs).toArray := by
  intro vs
  induction vs with
  | nil => intro o w L h; exact h
  | cons v r ih =>
    intro o w L h
    refine ih (o + 1) _ _ ?_
    have := h.set_ o v
    simpa using this
theorem fr_setCells {g : Nat} : ∀ (vs : List Value) (o : Nat) (w : World), Fr (· = g) w (w.setCells g o vs) := by
  intro vs
  induction vs with
  | nil => intro o w; exact Fr.refl _ w
  | cons v r ih =>
    intro o w
    exact ((Fr.refl (· = g) w).set_ (p := ⟨g, o, none⟩) rfl v).trans (ih (o + 1) _)
theorem zero5 (w : World) : (zeroValue 5).run Tryz.prog w = .ok (.int .u8 0) w := by kernel_rfl
/-- clear of a part of a row of bytes -/
theorem wpList_clear_fr (w : World) {ops : Array Oper} {rest : List Oper} {o : Oper} {a : Act} {Q : Exit → Act → World → Prop} (hgd : o.guard = none) (x : Operand)
    (ho : o.op = .call { callee := .builtin .clear, args := #[x], argTypes := #[83] }) (g off n c : Nat) (hx : a.eval x = .slice (some ⟨g, off, none⟩) n c) (cur : List Value) (t : TypeId) (hg : Blk w g t cur.toArray) (hn : 0 < n) (hfit : off + n ≤ cur.length)
    (h : ∀ w', Hid (Blk w' g t (splice cur off (List.replicate n (.int .u8 0))).toArray) → Fr (· = g) w w' → wpList Tryz.prog ops Q rest (a.put o.dst (.tuple #[])) w') :
    wpList Tryz.prog ops Q (o :: rest) a w := by
  refine wpList_plain hgd fun K hK => ?_
  have hrun := Lib.run_clear_slice (P := Tryz.prog) w 83 5 o.type (.int .u8 0) Tryz.underlying83 zero5 rfl rfl g off n c hn (fun j hj => by rw [hg.cell]; simp; omega) (fun j _ => hg.frozen _)
  unfold Oper.wp
  simp [execOp, ho, resolve, invoke, builtin, hx, hrun, Result.andThen]
  refine hK _ _ (h _ ?_ (fr_setCells _ _ w))
  have := blk_setCells (List.replicate n (Value.int .u8 0)) off w cur hg
  rw [setMany'_splice _ _ _ (by simpa using hfit)] at this
  exact this

/-! ### classes -/
def clAux : Nat → Nat → Int → Nat
  | 0, c, _ => c
  | f + 1, c, n => if (c : Int) < n then clAux f (2 * c) n else c
/-- the class of a room for n -/
def cl (n : Int) : Nat := clAux 18 16 n
theorem clAux_ge (n : Int) : ∀ (f c : Nat), n ≤ (c : Int) * 2 ^ f → n ≤ clAux f c n := by
  intro f
  induction f with
  | zero => intro c h; simpa [clAux] using h
  | succ f ih =>
    intro c h
    unfold clAux
    split
    · refine ih (2 * c) ?_
      have : ((2 * c : Nat) : Int) * 2 ^ f = (c : Int) * 2 ^ (f + 1) := by
        rw [Int.pow_succ, Int.mul_comm (2 ^ f) 2, ← Int.mul_assoc]
        push_cast
        rw [Int.mul_comm 2 (c : Int)]
      rw [this]; exact h
    · omega
theorem clAux_pow (n : Int) : ∀ (f c : Nat), ∃ k, k ≤ f ∧ clAux f c n = c * 2 ^ k := by
  intro f
  induction f with
  | zero => intro c; exact ⟨0, Nat.le_refl _, by simp [clAux]⟩
  | succ f ih =>
    intro c
    unfold clAux
    split
    · obtain ⟨k, hk, e⟩ := ih (2 * c)
      exact ⟨k + 1, by omega, by rw [e, Nat.pow_succ, Nat.mul_comm (2 ^ k) 2, ← Nat.mul_assoc, Nat.mul_comm c 2]⟩
    · exact ⟨0, Nat.zero_le _, by simp⟩
theorem cl_ge {n : Int} (h : n ≤ 4194304) : n ≤ cl n := clAux_ge n 18 16 (by simpa using h)
theorem cl_lo (n : Int) : 16 ≤ cl n := by
  obtain ⟨k, _, e⟩ := clAux_pow n 18 16
  unfold cl
  rw [e]
  have := Nat.one_le_two_pow (n := k)
  omega
theorem cl_hi (n : Int) : cl n ≤ 4194304 := by
  obtain ⟨k, hk, e⟩ := clAux_pow n 18 16
  unfold cl
  rw [e]
  have := Nat.pow_le_pow_right (n := 2) (by decide) hk
  omega
set_option maxHeartbeats 1000000 in
set_option maxRecDepth 100000 in
theorem Class_any (n : Int) (w : World) (h : n ≤ 4194304) :
    Calls Tryz.prog 24 #[.int .i64 n] w fun e w' => e = .returned (.int .i64 (cl n)) ∧ w = w' := by
  go_enter Tryz.func24, Tryz.ntmps24
  go_wp2
  go_loop [3] (fun c => ∃ f k : Nat, f + k = 18 ∧ k ≤ 18 ∧ c = .int .i64 ((16 * 2 ^ k : Nat) : Int) ∧ Hid (clAux f (16 * 2 ^ k) n = cl n)) (fun c => 8388608 - (intOf c).toNat)
  case atStart => exact ⟨18, 0, rfl, by omega, rfl, Lib.hid rfl⟩
  case round =>
    obtain ⟨f, k, hfk, hk, rfl, HE⟩ := hrel
    have hp := Nat.one_le_two_pow (n := k)
    have hp2 := Nat.pow_le_pow_right (n := 2) (by decide) hk
    obtain ⟨c, hc⟩ : ∃ c, c = 16 * 2 ^ k := ⟨_, rfl⟩
    rw [← hc] at HE ⊢
    have hc1 : 16 ≤ c := by omega
    have hc2 : c ≤ 4194304 := by omega
    by_cases hlt : (c : Int) < n
    · have hk18 : k < 18 := by
        rcases Nat.lt_or_ge k 18 with h1 | h1
        · exact h1
        · obtain rfl : k = 18 := by omega
          omega
      have HC : Hid (2 * c = 16 * 2 ^ (k + 1)) := Lib.hid (by rw [hc, Nat.pow_succ]; omega)
      have HN : Hid (clAux (f - 1) (2 * c) n = cl n) := Lib.hid (by
        have := HE.out
        obtain ⟨f', rfl⟩ : ∃ f', f = f' + 1 := ⟨f - 1, by omega⟩
        unfold clAux at this
        rw [if_pos hlt] at this
        exact this)
      clear hc hp hp2
      go_wp2
      go_round
      case rel => exact ⟨f - 1, k + 1, by omega, by omega, by rw [← HC.out]; go_num, by rw [← HC.out]; exact HN⟩
      case measure => simp [intOf]; omega
    · have HN : Hid (c = cl n) := Lib.hid (by
        rw [← HE.out]
        cases f with
        | zero => rfl
        | succ f => unfold clAux; rw [if_neg hlt])
      clear hc hp hp2
      go_wp2
      go_ret
      exact ⟨ret_int (by rw [HN.out]), rfl⟩
end Go.Proofs.YtahbnhhdpcieiaaGreatDoor
