/-
  The document's text of a list.
-/
import Derived.Test.YtalpkdnnclghaaaDoorNo
namespace Go.Proofs.YtalpkdnnclghaaaDoor
open Go.RowKit Go.ChangeShapes Go.WideShapes Go.ChangeAt
set_option linter.unusedVariables false
set_option linter.unusedSimpArgs false
def bs (l : List UInt8) : ByteArray := ⟨l.toArray⟩
theorem bs_app (a b : List UInt8) : bs a ++ bs b = bs (a ++ b) := by
  apply ByteArray.ext; simp [bs, ByteArray.data_append]
theorem bs_size (a : List UInt8) : (bs a).size = a.length := sz_of a
theorem bs_data (b : ByteArray) : bs b.data.toList = b := by
  apply ByteArray.ext; simp [bs]
theorem cat_bs (a b : List UInt8) (h : a.length + b.length ≤ 100000) : Op.stringOp .add (bs a) (bs b) = pure (.string (bs (a ++ b))) := by
  rw [cat_ok _ _ (by rw [bs_size, bs_size]; exact h), bs_app]
theorem nmT_bs (t : Nat) : nmT t = bs (nmL t) := (bs_data _).symm
theorem nmL_len (t : Nat) : (nmL t).length ≤ 3 := by rw [← bs_size, ← nmT_bs]; exact nmT_len t
set_option maxHeartbeats 4000000 in
set_option maxRecDepth 100000 in
theorem List_txt (A : Option Addr) (n c : Nat) (l : List Nat) (hn : n ≤ 1000) (w : World) (hb : Byt w A n c l) :
    Calls Tryd.prog 19 #[.slice A n c] w fun e w' => e = .returned (.string (txtL l)) ∧ w = w' := by
  obtain ⟨hl, hx, hcap, hcm, hc⟩ := hb
  subst hl
  have HC := Lib.hid hc
  have HX := Lib.hid hx
  have hn9 : l.length ≤ 1000 := hn
  clear hc hx
  go_enter Tryd.func19, Tryd.ntmps19
  go_wp2
  go_loop [3, 4] (fun v3 v4 => ∃ k : Nat, k ≤ l.length ∧ v4 = .int .i64 k ∧ v3 = .string (bs (txt l k))) (fun _ v4 => l.length - (intOf v4).toNat)
  case atStart => exact ⟨0, by omega, rfl, rfl⟩
  case round =>
    obtain ⟨k, hk, rfl, rfl⟩ := hrel
    have hL := txt_len l k
    by_cases hlt : k < l.length
    · obtain ⟨b, off, rfl, hbl, hcell⟩ := HC.out (by omega)
      have h0 := hcell k hlt
      have hy : l.getD k 0 < 256 := by
        rw [List.getD_eq_getElem?_getD, List.getElem?_eq_getElem hlt]; exact HX.out _ (List.getElem_mem hlt)
      have HT := Lib.hid (show txt l (k + 1) = txt l k ++ ((if k = 0 then [] else [44]) ++ nmL (l.getD k 0)) from rfl)
      clear hcell
      generalize l.getD k 0 = y at h0 hy HT
      have HN : Hid (∀ W, Calls Tryd.prog 29 #[.int .u8 y] W fun e w' => e = .returned (.string (bs (nmL y))) ∧ W = w') := Lib.hid (by rw [← nmT_bs]; exact RName9_ok y hy)
      have hny := nmL_len y
      generalize nmL y = ny at HN hny HT
      by_cases hk0 : k = 0
      · subst hk0
        have f1 := cat_bs (txt l 0) ny (by omega)
        have HE : Hid (txt l 0 ++ ny = txt l (0 + 1)) := Lib.hid (by rw [HT.out]; simp)
        rw [Nat.add_zero] at h0
        clear hL hny HT
        go_wp2_with (go_at_call 29; (with_reducible refine (HN.out _).mono ?_); rintro e w1 ⟨rfl, rfl⟩)
        go_round
        case rel => exact ⟨0 + 1, by omega, by go_num, by rw [HE.out]⟩
        case measure => simp [intOf]; omega
      · have hk1 : (0 : Int) < (k : Int) := by omega
        have f1 : Op.stringOp .add (bs (txt l k)) ⟨#[44]⟩ = pure (.string (bs (txt l k ++ [44]))) := cat_bs (txt l k) [44] (by simp; omega)
        have f2 := cat_bs (txt l k ++ [44]) ny (by simp; omega)
        have HE : Hid (txt l k ++ 44 :: ny = txt l (k + 1)) := Lib.hid (by rw [HT.out, if_neg hk0]; simp)
        clear hL hny HT
        go_wp2_with (go_at_call 29; (with_reducible refine (HN.out _).mono ?_); rintro e w1 ⟨rfl, rfl⟩)
        go_round
        case rel => exact ⟨k + 1, by omega, by go_num, by rw [HE.out]⟩
        case measure => simp [intOf]; omega
    · obtain rfl : k = l.length := by omega
      have f1 : Op.stringOp .add (bs (txt l l.length)) ⟨#[41]⟩ = pure (.string (bs (txt l l.length ++ [41]))) := cat_bs (txt l l.length) [41] (by simp; omega)
      clear hL
      go_wp2
      go_ret
      exact ⟨rfl, rfl⟩
end Go.Proofs.YtalpkdnnclghaaaDoor
