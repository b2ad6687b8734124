/-
  The document's Takes.
-/
import Derived.Test.YtalpkdnnclghaaaDoorOk
import Derived.Laws.OwnMore
import Derived.Outline
namespace Go.Proofs.YtalpkdnnclghaaaDoor
open Go.RowKit Go.ChangeShapes Go.WideShapes Go.ChangeAt
set_option linter.unusedVariables false
set_option linter.unusedSimpArgs false
/-- what the document says that an op takes, and gives -/
def takesL (c : Int) : List Nat × List Nat :=
  if c < 40 then ([], [])
  else if c = 40 ∨ (44 ≤ c ∧ c ≤ 47) then ([127], [127])
  else if c = 41 ∨ (48 ≤ c ∧ c ≤ 53) then ([127], [126])
  else if c = 54 ∨ c = 58 ∨ c = 59 then ([127, 127], [])
  else if c ≤ 62 then ([127, 126], [])
  else if c = 63 ∨ c = 65 then ([], [127])
  else if c = 66 then ([], [126])
  else if c = 80 ∨ c = 167 then ([126], [127])
  else if (70 ≤ c ∧ c ≤ 79) ∨ (106 ≤ c ∧ c ≤ 120) then ([127, 127], [127])
  else if 81 ≤ c ∧ c ≤ 90 then ([126, 126], [127])
  else if 124 ≤ c ∧ c ≤ 138 then ([126, 126], [126])
  else if c = 172 ∨ c = 173 then ([127], [126])
  else if (121 ≤ c ∧ c ≤ 123) ∨ (194 ≤ c ∧ c ≤ 196) then ([126], [126])
  else if 64522 ≤ c then ([127, 127, 127], [])
  else ([127], [127])
theorem tk0 (c : Int)  (p : c < 40) : takesL c = ([], []) := by
  unfold takesL
  rw [if_pos p]
theorem tk1 (c : Int) (n0 : ¬ (c < 40)) (p : c = 40 ∨ (44 ≤ c ∧ c ≤ 47)) : takesL c = ([127], [127]) := by
  unfold takesL
  rw [if_neg n0, if_pos p]
theorem tk2 (c : Int) (n0 : ¬ (c < 40)) (n1 : ¬ (c = 40 ∨ (44 ≤ c ∧ c ≤ 47))) (p : c = 41 ∨ (48 ≤ c ∧ c ≤ 53)) : takesL c = ([127], [126]) := by
  unfold takesL
  rw [if_neg n0, if_neg n1, if_pos p]
theorem tk3 (c : Int) (n0 : ¬ (c < 40)) (n1 : ¬ (c = 40 ∨ (44 ≤ c ∧ c ≤ 47))) (n2 : ¬ (c = 41 ∨ (48 ≤ c ∧ c ≤ 53))) (p : c = 54 ∨ c = 58 ∨ c = 59) : takesL c = ([127, 127], []) := by
  unfold takesL
  rw [if_neg n0, if_neg n1, if_neg n2, if_pos p]
theorem tk4 (c : Int) (n0 : ¬ (c < 40)) (n1 : ¬ (c = 40 ∨ (44 ≤ c ∧ c ≤ 47))) (n2 : ¬ (c = 41 ∨ (48 ≤ c ∧ c ≤ 53))) (n3 : ¬ (c = 54 ∨ c = 58 ∨ c = 59)) (p : c ≤ 62) : takesL c = ([127, 126], []) := by
  unfold takesL
  rw [if_neg n0, if_neg n1, if_neg n2, if_neg n3, if_pos p]
theorem tk5 (c : Int) (n0 : ¬ (c < 40)) (n1 : ¬ (c = 40 ∨ (44 ≤ c ∧ c ≤ 47))) (n2 : ¬ (c = 41 ∨ (48 ≤ c ∧ c ≤ 53))) (n3 : ¬ (c = 54 ∨ c = 58 ∨ c = 59)) (n4 : ¬ (c ≤ 62)) (p : c = 63 ∨ c = 65) : takesL c = ([], [127]) := by
  unfold takesL
  rw [if_neg n0, if_neg n1, if_neg n2, if_neg n3, if_neg n4, if_pos p]
theorem tk6 (c : Int) (n0 : ¬ (c < 40)) (n1 : ¬ (c = 40 ∨ (44 ≤ c ∧ c ≤ 47))) (n2 : ¬ (c = 41 ∨ (48 ≤ c ∧ c ≤ 53))) (n3 : ¬ (c = 54 ∨ c = 58 ∨ c = 59)) (n4 : ¬ (c ≤ 62)) (n5 : ¬ (c = 63 ∨ c = 65)) (p : c = 66) : takesL c = ([], [126]) := by
  unfold takesL
  rw [if_neg n0, if_neg n1, if_neg n2, if_neg n3, if_neg n4, if_neg n5, if_pos p]
theorem tk7 (c : Int) (n0 : ¬ (c < 40)) (n1 : ¬ (c = 40 ∨ (44 ≤ c ∧ c ≤ 47))) (n2 : ¬ (c = 41 ∨ (48 ≤ c ∧ c ≤ 53))) (n3 : ¬ (c = 54 ∨ c = 58 ∨ c = 59)) (n4 : ¬ (c ≤ 62)) (n5 : ¬ (c = 63 ∨ c = 65)) (n6 : ¬ (c = 66)) (p : c = 80 ∨ c = 167) : takesL c = ([126], [127]) := by
  unfold takesL
  rw [if_neg n0, if_neg n1, if_neg n2, if_neg n3, if_neg n4, if_neg n5, if_neg n6, if_pos p]
theorem tk8 (c : Int) (n0 : ¬ (c < 40)) (n1 : ¬ (c = 40 ∨ (44 ≤ c ∧ c ≤ 47))) (n2 : ¬ (c = 41 ∨ (48 ≤ c ∧ c ≤ 53))) (n3 : ¬ (c = 54 ∨ c = 58 ∨ c = 59)) (n4 : ¬ (c ≤ 62)) (n5 : ¬ (c = 63 ∨ c = 65)) (n6 : ¬ (c = 66)) (n7 : ¬ (c = 80 ∨ c = 167)) (p : (70 ≤ c ∧ c ≤ 79) ∨ (106 ≤ c ∧ c ≤ 120)) : takesL c = ([127, 127], [127]) := by
  unfold takesL
  rw [if_neg n0, if_neg n1, if_neg n2, if_neg n3, if_neg n4, if_neg n5, if_neg n6, if_neg n7, if_pos p]
theorem tk9 (c : Int) (n0 : ¬ (c < 40)) (n1 : ¬ (c = 40 ∨ (44 ≤ c ∧ c ≤ 47))) (n2 : ¬ (c = 41 ∨ (48 ≤ c ∧ c ≤ 53))) (n3 : ¬ (c = 54 ∨ c = 58 ∨ c = 59)) (n4 : ¬ (c ≤ 62)) (n5 : ¬ (c = 63 ∨ c = 65)) (n6 : ¬ (c = 66)) (n7 : ¬ (c = 80 ∨ c = 167)) (n8 : ¬ ((70 ≤ c ∧ c ≤ 79) ∨ (106 ≤ c ∧ c ≤ 120))) (p : 81 ≤ c ∧ c ≤ 90) : takesL c = ([126, 126], [127]) := by
  unfold takesL
  rw [if_neg n0, if_neg n1, if_neg n2, if_neg n3, if_neg n4, if_neg n5, if_neg n6, if_neg n7, if_neg n8, if_pos p]
theorem tk10 (c : Int) (n0 : ¬ (c < 40)) (n1 : ¬ (c = 40 ∨ (44 ≤ c ∧ c ≤ 47))) (n2 : ¬ (c = 41 ∨ (48 ≤ c ∧ c ≤ 53))) (n3 : ¬ (c = 54 ∨ c = 58 ∨ c = 59)) (n4 : ¬ (c ≤ 62)) (n5 : ¬ (c = 63 ∨ c = 65)) (n6 : ¬ (c = 66)) (n7 : ¬ (c = 80 ∨ c = 167)) (n8 : ¬ ((70 ≤ c ∧ c ≤ 79) ∨ (106 ≤ c ∧ c ≤ 120))) (n9 : ¬ (81 ≤ c ∧ c ≤ 90)) (p : 124 ≤ c ∧ c ≤ 138) : takesL c = ([126, 126], [126]) := by
  unfold takesL
  rw [if_neg n0, if_neg n1, if_neg n2, if_neg n3, if_neg n4, if_neg n5, if_neg n6, if_neg n7, if_neg n8, if_neg n9, if_pos p]
theorem tk11 (c : Int) (n0 : ¬ (c < 40)) (n1 : ¬ (c = 40 ∨ (44 ≤ c ∧ c ≤ 47))) (n2 : ¬ (c = 41 ∨ (48 ≤ c ∧ c ≤ 53))) (n3 : ¬ (c = 54 ∨ c = 58 ∨ c = 59)) (n4 : ¬ (c ≤ 62)) (n5 : ¬ (c = 63 ∨ c = 65)) (n6 : ¬ (c = 66)) (n7 : ¬ (c = 80 ∨ c = 167)) (n8 : ¬ ((70 ≤ c ∧ c ≤ 79) ∨ (106 ≤ c ∧ c ≤ 120))) (n9 : ¬ (81 ≤ c ∧ c ≤ 90)) (n10 : ¬ (124 ≤ c ∧ c ≤ 138)) (p : c = 172 ∨ c = 173) : takesL c = ([127], [126]) := by
  unfold takesL
  rw [if_neg n0, if_neg n1, if_neg n2, if_neg n3, if_neg n4, if_neg n5, if_neg n6, if_neg n7, if_neg n8, if_neg n9, if_neg n10, if_pos p]
theorem tk12 (c : Int) (n0 : ¬ (c < 40)) (n1 : ¬ (c = 40 ∨ (44 ≤ c ∧ c ≤ 47))) (n2 : ¬ (c = 41 ∨ (48 ≤ c ∧ c ≤ 53))) (n3 : ¬ (c = 54 ∨ c = 58 ∨ c = 59)) (n4 : ¬ (c ≤ 62)) (n5 : ¬ (c = 63 ∨ c = 65)) (n6 : ¬ (c = 66)) (n7 : ¬ (c = 80 ∨ c = 167)) (n8 : ¬ ((70 ≤ c ∧ c ≤ 79) ∨ (106 ≤ c ∧ c ≤ 120))) (n9 : ¬ (81 ≤ c ∧ c ≤ 90)) (n10 : ¬ (124 ≤ c ∧ c ≤ 138)) (n11 : ¬ (c = 172 ∨ c = 173)) (p : (121 ≤ c ∧ c ≤ 123) ∨ (194 ≤ c ∧ c ≤ 196)) : takesL c = ([126], [126]) := by
  unfold takesL
  rw [if_neg n0, if_neg n1, if_neg n2, if_neg n3, if_neg n4, if_neg n5, if_neg n6, if_neg n7, if_neg n8, if_neg n9, if_neg n10, if_neg n11, if_pos p]
theorem tk13 (c : Int) (n0 : ¬ (c < 40)) (n1 : ¬ (c = 40 ∨ (44 ≤ c ∧ c ≤ 47))) (n2 : ¬ (c = 41 ∨ (48 ≤ c ∧ c ≤ 53))) (n3 : ¬ (c = 54 ∨ c = 58 ∨ c = 59)) (n4 : ¬ (c ≤ 62)) (n5 : ¬ (c = 63 ∨ c = 65)) (n6 : ¬ (c = 66)) (n7 : ¬ (c = 80 ∨ c = 167)) (n8 : ¬ ((70 ≤ c ∧ c ≤ 79) ∨ (106 ≤ c ∧ c ≤ 120))) (n9 : ¬ (81 ≤ c ∧ c ≤ 90)) (n10 : ¬ (124 ≤ c ∧ c ≤ 138)) (n11 : ¬ (c = 172 ∨ c = 173)) (n12 : ¬ ((121 ≤ c ∧ c ≤ 123) ∨ (194 ≤ c ∧ c ≤ 196))) (p : 64522 ≤ c) : takesL c = ([127, 127, 127], []) := by
  unfold takesL
  rw [if_neg n0, if_neg n1, if_neg n2, if_neg n3, if_neg n4, if_neg n5, if_neg n6, if_neg n7, if_neg n8, if_neg n9, if_neg n10, if_neg n11, if_neg n12, if_pos p]
theorem tk14 (c : Int) (n0 : ¬ (c < 40)) (n1 : ¬ (c = 40 ∨ (44 ≤ c ∧ c ≤ 47))) (n2 : ¬ (c = 41 ∨ (48 ≤ c ∧ c ≤ 53))) (n3 : ¬ (c = 54 ∨ c = 58 ∨ c = 59)) (n4 : ¬ (c ≤ 62)) (n5 : ¬ (c = 63 ∨ c = 65)) (n6 : ¬ (c = 66)) (n7 : ¬ (c = 80 ∨ c = 167)) (n8 : ¬ ((70 ≤ c ∧ c ≤ 79) ∨ (106 ≤ c ∧ c ≤ 120))) (n9 : ¬ (81 ≤ c ∧ c ≤ 90)) (n10 : ¬ (124 ≤ c ∧ c ≤ 138)) (n11 : ¬ (c = 172 ∨ c = 173)) (n12 : ¬ ((121 ≤ c ∧ c ≤ 123) ∨ (194 ≤ c ∧ c ≤ 196))) (n13 : ¬ (64522 ≤ c)) : takesL c = ([127], [127]) := by
  unfold takesL
  rw [if_neg n0, if_neg n1, if_neg n2, if_neg n3, if_neg n4, if_neg n5, if_neg n6, if_neg n7, if_neg n8, if_neg n9, if_neg n10, if_neg n11, if_neg n12, if_neg n13]
theorem lit1 (w : World) (B t a : Nat) (h : B ≤ w.heap.size) : (w.alloc (.cells #[.int .u8 (a : Int)] t)).ownsRow B t 1 (.slice (some ⟨w.heap.size, 0, none⟩) 1 1) [a].length ([a].map U8) :=
  World.ownsRow_lit w #[.int .u8 (a : Int)] 1 h (by unfold maxLen; omega) rfl
theorem lit2 (w : World) (B t a b : Nat) (h : B ≤ w.heap.size) : (w.alloc (.cells #[.int .u8 (a : Int), .int .u8 (b : Int)] t)).ownsRow B t 1 (.slice (some ⟨w.heap.size, 0, none⟩) 2 2) [a, b].length ([a, b].map U8) :=
  World.ownsRow_lit w #[.int .u8 (a : Int), .int .u8 (b : Int)] 2 h (by unfold maxLen; omega) rfl
theorem lit3 (w : World) (B t a b c : Nat) (h : B ≤ w.heap.size) : (w.alloc (.cells #[.int .u8 (a : Int), .int .u8 (b : Int), .int .u8 (c : Int)] t)).ownsRow B t 1 (.slice (some ⟨w.heap.size, 0, none⟩) 3 3) [a, b, c].length ([a, b, c].map U8) :=
  World.ownsRow_lit w #[.int .u8 (a : Int), .int .u8 (b : Int), .int .u8 (c : Int)] 3 h (by unfold maxLen; omega) rfl
theorem lit1b (w : World) (o : Obj) (t a : Nat) (k : Unit) : ((w.alloc o).alloc (.cells #[.int .u8 (a : Int)] t)).ownsRow w.heap.size t 1 (.slice (some ⟨w.heap.size + 1, 0, none⟩) 1 1) [a].length ([a].map U8) := by
  have h := lit1 (w.alloc o) w.heap.size t a (by simp)
  rwa [show (w.alloc o).heap.size = w.heap.size + 1 by simp] at h
def TkPost (c : Int) (w : World) (e : Ending) (w' : World) : Prop := ∃ vt vg, e = .returned (.tuple #[vt, vg]) ∧ w'.ownsRow w.heap.size 5 1 vt (takesL c).1.length ((takesL c).1.map U8) ∧ w'.ownsRow w.heap.size 5 1 vg (takesL c).2.length ((takesL c).2.map U8) ∧ Below w.heap.size w w'
set_option maxHeartbeats 8000000 in
set_option maxRecDepth 100000 in
theorem RTakes_any (c : Int) (hb : -9223372036854775808 ≤ c ∧ c ≤ 9223372036854775807) (w : World) : Calls Tryd.prog 38 #[.int .i64 c] w (TkPost c w) := by
  obtain ⟨q, HQ⟩ : ∃ q, Hid (q = c) := ⟨_, Lib.hid rfl⟩
  rw [show TkPost c w = TkPost q w by rw [HQ.out]]
  go_enter Tryd.func38, Tryd.ntmps38
  go_wp2_with fail
  all_goals
    go_ret2
    have hqc := HQ.out
    try simp only [beq_iff_eq, beq_eq_false_iff_ne, ne_eq] at *
    first
    | (exfalso; omega)
    | (show TkPost q w (.returned (.tuple #[.slice _ _ _, .slice _ _ _])) _
       unfold TkPost
       first
         | (rw [tk0 q]; rotate_left; omega)
         | (rw [tk1 q]; rotate_left; omega; omega)
         | (rw [tk2 q]; rotate_left; omega; omega; omega)
         | (rw [tk3 q]; rotate_left; omega; omega; omega; omega)
         | (rw [tk4 q]; rotate_left; omega; omega; omega; omega; omega)
         | (rw [tk5 q]; rotate_left; omega; omega; omega; omega; omega; omega)
         | (rw [tk6 q]; rotate_left; omega; omega; omega; omega; omega; omega; omega)
         | (rw [tk7 q]; rotate_left; omega; omega; omega; omega; omega; omega; omega; omega)
         | (rw [tk8 q]; rotate_left; omega; omega; omega; omega; omega; omega; omega; omega; omega)
         | (rw [tk9 q]; rotate_left; omega; omega; omega; omega; omega; omega; omega; omega; omega; omega)
         | (rw [tk10 q]; rotate_left; omega; omega; omega; omega; omega; omega; omega; omega; omega; omega; omega)
         | (rw [tk11 q]; rotate_left; omega; omega; omega; omega; omega; omega; omega; omega; omega; omega; omega; omega)
         | (rw [tk12 q]; rotate_left; omega; omega; omega; omega; omega; omega; omega; omega; omega; omega; omega; omega; omega)
         | (rw [tk13 q]; rotate_left; omega; omega; omega; omega; omega; omega; omega; omega; omega; omega; omega; omega; omega; omega)
         | (rw [tk14 q]; rotate_left; omega; omega; omega; omega; omega; omega; omega; omega; omega; omega; omega; omega; omega; omega)
       refine ⟨_, _, rfl, ?_, ?_, ?_⟩
       · first
           | exact World.ownsRow_nil _ _ _ _
           | exact lit1 _ _ _ 127 (Nat.le_refl _)
           | exact lit1 _ _ _ 126 (Nat.le_refl _)
           | exact (lit1 _ _ _ 127 (Nat.le_refl _)).alloc _
           | exact (lit1 _ _ _ 126 (Nat.le_refl _)).alloc _
           | exact lit2 _ _ _ 127 127 (Nat.le_refl _)
           | exact lit2 _ _ _ 127 126 (Nat.le_refl _)
           | exact (lit2 _ _ _ 127 127 (Nat.le_refl _)).alloc _
           | exact (lit2 _ _ _ 126 126 (Nat.le_refl _)).alloc _
           | exact lit3 _ _ _ 127 127 127 (Nat.le_refl _)
       · first
           | exact World.ownsRow_nil _ _ _ _
           | exact lit1 _ _ _ 127 (Nat.le_refl _)
           | exact lit1 _ _ _ 126 (Nat.le_refl _)
           | exact lit1b _ _ _ 127 ()
           | exact lit1b _ _ _ 126 ()
       · first
           | exact Below.refl _ _
           | exact (Below.refl _ _).alloc (Nat.le_refl _) _
           | exact ((Below.refl _ _).alloc (Nat.le_refl _) _).alloc (by simp) _)
end Go.Proofs.YtalpkdnnclghaaaDoor
