/-
  Texts of YtggfaalodojjkaaGreatDoorY1.
-/
import Derived.Test.YtggfaalodojjkaaGreatDoorQFe
import Derived.Deep.LoopGhost
import Derived.Deep.RegionHeld3
namespace Go.Proofs.YtggfaalodojjkaaGreatDoor
open Go.RowKit
set_option linter.unusedVariables false
theorem St.made {w : World} {f g c N : Nat} {l : List Nat} {r : Nat} {fa : Int} {fr t a : Nat} (h : St w f g c N l r fa fr t a) (o : Obj) : St (w.alloc o).drew f g c N l r fa fr t a :=
  ⟨⟨h.fl.blk.alloc o, h.fl.byt.alloc o, h.fl.len, h.fl.lim, h.fl.all⟩, h.cu.alloc o, h.h1, h.h2, h.h3⟩
def PaPost (f g c N : Nat) (l : List Nat) (r : Nat) (fa : Int) (fr t a n : Nat) (w : World) (e : Ending) (w' : World) : Prop :=
  ∃ p, e = .returned (.tuple #[.pointer (some ⟨p, 0, none⟩), .int .i64 0]) ∧ St w' f g c N l r fa fr t (a + n) ∧ Blk w' p 87 (cuC f a (a + n : Nat) a) ∧ w.heap.size ≤ p ∧ Fr (· = c) w w'
set_option maxHeartbeats 400000 in
set_option maxRecDepth 100000 in
theorem Cursor_bad (w : World) (f g N : Nat) (l : List Nat) (r : Nat) (fa : Int) (a t : Int) (h : Fl w f g N l r fa) (hb : a < 0 ∨ (0 ≤ a ∧ t < a) ∨ (0 ≤ a ∧ a ≤ t ∧ N < t)) :
    Calls Tryz.prog 16 #[.pointer (some ⟨f, 0, none⟩), .int .i64 a, .int .i64 t] w fun e w' => e = .returned (.tuple #[.pointer none, .int .i64 2]) ∧ w = w' := by
  have c0 : w.cell? ⟨f, 0, none⟩ = some (.slice (some ⟨g, 0, none⟩) N N) := h.blk.cell 0
  clear h
  rcases hb with hb | ⟨h1, hb⟩ | ⟨h1, h2, hb⟩
  all_goals
    go_enter Tryz.func16, Tryz.ntmps16
    go_wp2
    go_ret2
    exact ⟨rfl, rfl⟩
set_option maxHeartbeats 400000 in
set_option maxRecDepth 100000 in
theorem Cursor_ok (w : World) (f g N : Nat) (l : List Nat) (r : Nat) (fa : Int) (a t : Nat) (h : Fl w f g N l r fa) (h1 : a ≤ t) (h2 : t ≤ N) :
    Calls Tryz.prog 16 #[.pointer (some ⟨f, 0, none⟩), .int .i64 a, .int .i64 t] w fun e w' => ∃ c, e = .returned (.tuple #[.pointer (some ⟨c, 0, none⟩), .int .i64 0]) ∧ St w' f g c N l r fa a t a ∧ w.heap.size ≤ c ∧ Below w.heap.size w w' := by
  have c0 : w.cell? ⟨f, 0, none⟩ = some (.slice (some ⟨g, 0, none⟩) N N) := h.blk.cell 0
  have HS : Hid (St (w.alloc (.cells (cuC f a t a) 87)) f g w.heap.size N l r fa a t a) := Lib.hid ⟨⟨h.blk.alloc _, h.byt.alloc _, h.len, h.lim, h.all⟩, Blk.new w 87 _, Nat.le_refl _, h1, h2⟩
  clear h
  go_enter Tryz.func16, Tryz.ntmps16
  go_wp2
  go_ret2
  exact ⟨w.heap.size, rfl, HS.out, Nat.le_refl _, (Below.refl _ _).alloc (Nat.le_refl _) _⟩
set_option maxHeartbeats 400000 in
set_option maxRecDepth 100000 in
theorem Reads_any (w : World) (f g N : Nat) (l : List Nat) (r : Nat) (fa : Int) (h : Fl w f g N l r fa) (hr : r < 1000000) :
    Calls Tryz.prog 28 #[.pointer (some ⟨f, 0, none⟩)] w fun e w' => e = .returned (.int .i64 r) ∧ w = w' := by
  have HL := Lib.hid (Load_any f 1 r w (h.blk.cell 1))
  clear h
  go_enter Tryz.func28, Tryz.ntmps28
  go_wp2_with (go_at_call 52; refine HL.out.mono ?_; rintro e w' ⟨rfl, rfl⟩)
  go_ret
  exact ⟨rfl, rfl⟩
set_option maxHeartbeats 400000 in
set_option maxRecDepth 100000 in
theorem FailAt_any (w : World) (f g N : Nat) (l : List Nat) (r : Nat) (fa n : Int) (h : Fl w f g N l r fa) :
    Calls Tryz.prog 27 #[.pointer (some ⟨f, 0, none⟩), .int .i64 n] w fun e w' => e = .returned (.tuple #[]) ∧ Fl w' f g N l r n ∧ Fr (· = f) w w' := by
  have c2 : w.cell? ⟨f, 2, none⟩ = some (.int .i64 fa) := h.blk.cell 2
  have z2 := h.blk.frozen 2
  have HF : Hid (Fl (w.setCell ⟨f, 2, none⟩ (.int .i64 n)) f g N l r n) := Lib.hid ⟨by have := h.blk.set_ 2 (.int .i64 n); exact this, h.byt.far (fun e => h.byt.ne_ h.blk (by decide) e) _, h.len, h.lim, h.all⟩
  clear h
  go_enter Tryz.func27, Tryz.ntmps27
  go_wp2
  go_end0
  exact ⟨rfl, HF.out, (Fr.refl (· = f) _).set_ (p := ⟨f, 2, none⟩) rfl _⟩
end Go.Proofs.YtggfaalodojjkaaGreatDoor
namespace Go.Proofs.YtggfaalodojjkaaGreatDoor
open Go.RowKit
set_option linter.unusedVariables false
theorem str12 : (str [1, 2]).toList = [1, 2] := by rw [str_toList]; rfl
end Go.Proofs.YtggfaalodojjkaaGreatDoor
namespace Go.Proofs.YtggfaalodojjkaaGreatDoor
open Go.RowKit
set_option linter.unusedVariables false
theorem rdE_app (n : Nat) : ∀ (p q : List Nat) (i : Nat), (Leb.rdE n p i).2 ≠ 3 → Leb.rdE n (p ++ q) i = Leb.rdE n p i := by
  intro p
  induction p with
  | nil => intro q i h; exact absurd rfl h
  | cons c t ih =>
    intro q i h
    rw [Leb.rdE] at h
    rw [List.cons_append, Leb.rdE, Leb.rdE]
    by_cases h1 : n ≤ 7 * (i + 1) ∧ 128 ≤ c
    · rw [if_pos h1, if_pos h1]
    · rw [if_neg h1] at h
      rw [if_neg h1, if_neg h1]
      by_cases h2 : c < 128
      · rw [if_pos h2, if_pos h2]
      · rw [if_neg h2] at h
        rw [if_neg h2, if_neg h2]
        exact ih q (i + 1) h
theorem rdE_short (n : Nat) : ∀ (p : List Nat) (i : Nat), (Leb.rdE n p i).2 = 3 → p = [] ∨ 7 * (i + p.length) < n := by
  intro p
  induction p with
  | nil => intro i _; exact .inl rfl
  | cons c t ih =>
    intro i h
    rw [Leb.rdE] at h
    by_cases h1 : n ≤ 7 * (i + 1) ∧ 128 ≤ c
    · rw [if_pos h1] at h; simp at h
    · rw [if_neg h1] at h
      by_cases h2 : c < 128
      · rw [if_pos h2] at h; simp at h
      · rw [if_neg h2] at h
        rcases ih (i + 1) h with e | e
        · subst e
          right
          simp only [List.length_cons, List.length_nil]
          omega
        · right
          simp only [List.length_cons]
          omega
theorem rdE_three (n : Nat) : ∀ (p : List Nat) (i : Nat), (Leb.rdE n p i).2 = 0 ∨ (Leb.rdE n p i).2 = 3 ∨ (Leb.rdE n p i).2 = 4 := by
  intro p
  induction p with
  | nil => intro i; exact .inr (.inl rfl)
  | cons c t ih =>
    intro i
    rw [Leb.rdE]
    split
    · exact .inr (.inr rfl)
    · split
      · exact .inl rfl
      · exact ih _
theorem uns_rd3 (p : List Nat) (k : Int) (h : ¬ Leb.bad k) : (Leb.uns p k).2.2 = 3 ↔ (Leb.rdE k.toNat p 0).2 = 3 := by
  unfold Leb.uns
  rw [if_neg h]
  by_cases h0 : (Leb.rdE k.toNat p 0).2 = 0
  · rw [if_pos h0]
    constructor
    · split <;> simp
    · intro e; omega
  · rw [if_neg h0]
theorem sgn_rd3 (p : List Nat) (k : Int) (h : ¬ Leb.bad k) : (Leb.sgn p k).2.2 = 3 ↔ (Leb.rdE k.toNat p 0).2 = 3 := by
  unfold Leb.sgn
  rw [if_neg h]
  by_cases h0 : (Leb.rdE k.toNat p 0).2 = 0
  · rw [if_pos h0]
    constructor
    · split <;> simp
    · intro e; omega
  · rw [if_neg h0]
theorem uns_app (p q : List Nat) (k : Int) (h : (Leb.uns p k).2.2 ≠ 3) : Leb.uns (p ++ q) k = Leb.uns p k := by
  by_cases hb : Leb.bad k
  · rw [uns_bad _ _ hb, uns_bad _ _ hb]
  · have h3 : (Leb.rdE k.toNat p 0).2 ≠ 3 := fun e => h ((uns_rd3 p k hb).2 e)
    unfold Leb.uns
    rw [rdE_app k.toNat p q 0 h3]
    by_cases h0 : (Leb.rdE k.toNat p 0).2 = 0
    · have := Leb.rdE_size k.toNat p 0 h0
      rw [List.take_append_of_le_length (by omega)]
    · rw [if_neg hb, if_neg hb, if_neg h0, if_neg h0]
theorem sgn_app (p q : List Nat) (k : Int) (h : (Leb.sgn p k).2.2 ≠ 3) : Leb.sgn (p ++ q) k = Leb.sgn p k := by
  by_cases hb : Leb.bad k
  · rw [sgn_bad _ _ hb, sgn_bad _ _ hb]
  · have h3 : (Leb.rdE k.toNat p 0).2 ≠ 3 := fun e => h ((sgn_rd3 p k hb).2 e)
    unfold Leb.sgn
    rw [rdE_app k.toNat p q 0 h3]
    by_cases h0 : (Leb.rdE k.toNat p 0).2 = 0
    · have := Leb.rdE_size k.toNat p 0 h0
      rw [List.take_append_of_le_length (by omega)]
    · rw [if_neg hb, if_neg hb, if_neg h0, if_neg h0]
theorem uns_nb (p : List Nat) (k : Int) (h : (Leb.uns p k).2.2 = 3) : ¬ Leb.bad k := fun hb => by rw [uns_bad _ _ hb] at h; simp at h
theorem sgn_nb (p : List Nat) (k : Int) (h : (Leb.sgn p k).2.2 = 3) : ¬ Leb.bad k := fun hb => by rw [sgn_bad _ _ hb] at h; simp at h
theorem uns_len (p : List Nat) (k : Int) (h : (Leb.uns p k).2.2 = 3) : p.length ≤ 9 := by
  have hb := uns_nb p k h
  rcases rdE_short _ p 0 ((uns_rd3 p k hb).1 h) with e | e
  · subst e; simp
  · unfold Leb.bad at hb; omega
theorem sgn_len (p : List Nat) (k : Int) (h : (Leb.sgn p k).2.2 = 3) : p.length ≤ 9 := by
  have hb := sgn_nb p k h
  rcases rdE_short _ p 0 ((sgn_rd3 p k hb).1 h) with e | e
  · subst e; simp
  · unfold Leb.bad at hb; omega
theorem uns_zero (p : List Nat) (k : Int) (h : (Leb.uns p k).2.2 ≠ 0) : (Leb.uns p k).1 = 0 ∧ (Leb.uns p k).2.1 = 0 := by
  unfold Leb.uns at *
  split
  · simp
  · rename_i hb
    rw [if_neg hb] at h
    split
    · rename_i h0
      rw [if_pos h0] at h
      split
      · rename_i hv; rw [if_pos hv] at h; simp at h
      · simp
    · simp
theorem sgn_zero (p : List Nat) (k : Int) (h : (Leb.sgn p k).2.2 ≠ 0) : (Leb.sgn p k).1 = 0 ∧ (Leb.sgn p k).2.1 = 0 := by
  unfold Leb.sgn at *
  split
  · simp
  · rename_i hb
    rw [if_neg hb] at h
    split
    · rename_i h0
      rw [if_pos h0] at h
      split
      · rename_i hv; rw [if_pos hv] at h; simp at h
      · simp
    · simp
theorem Fr.grown_ {w w' : World} {v : Value} (h : w.grownBy w' v.ownBlock) : Fr (fun k => v.ownBlock = some k) w w' :=
  ⟨h.os, h.tape, h.output, h.size, fun k hk hs => h.block k hk (fun e => hs e.symm)⟩
theorem Fr.new_ {S T : Nat → Prop} {w w1 w2 : World} (h1 : Fr S w w1) (h2 : Fr T w1 w2) (hT : ∀ k, T k → S k ∨ w.heap.size ≤ k) : Fr S w w2 :=
  ⟨h2.os.trans h1.os, h2.tape.trans h1.tape, h2.output.trans h1.output, Nat.le_trans h1.size h2.size, fun k hk hs =>
    (h2.block k (Nat.lt_of_lt_of_le hk h1.size) (fun q => by
      rcases hT k q with e | e
      · exact hs e
      · omega)).trans (h1.block k hk hs)⟩
theorem rdE_last (n : Nat) (x : Nat) : ∀ (p : List Nat) (i : Nat), (Leb.rdE n p i).2 = 3 → (Leb.rdE n (p ++ [x]) i).2 = 0 → (Leb.rdE n (p ++ [x]) i).1 = i + p.length + 1 := by
  intro p
  induction p with
  | nil =>
    intro i _ h
    rw [List.nil_append, Leb.rdE] at h ⊢
    by_cases h1 : n ≤ 7 * (i + 1) ∧ 128 ≤ x
    · rw [if_pos h1] at h; simp at h
    · rw [if_neg h1] at h ⊢
      by_cases h2 : x < 128
      · rw [if_pos h2]; rfl
      · rw [if_neg h2] at h; simp [Leb.rdE] at h
  | cons c t ih =>
    intro i h3 h
    rw [Leb.rdE] at h3
    rw [List.cons_append, Leb.rdE] at h ⊢
    by_cases h1 : n ≤ 7 * (i + 1) ∧ 128 ≤ c
    · rw [if_pos h1] at h; simp at h
    · rw [if_neg h1] at h3 h ⊢
      by_cases h2 : c < 128
      · rw [if_pos h2] at h3; simp at h3
      · rw [if_neg h2] at h3 h ⊢
        rw [ih (i + 1) h3 h, List.length_cons]; omega
theorem uns_last (p : List Nat) (x : Nat) (k : Int) (h3 : (Leb.uns p k).2.2 = 3) (h : (Leb.uns (p ++ [x]) k).2.2 = 0) : (Leb.uns (p ++ [x]) k).2.1 = p.length + 1 := by
  have hb := uns_nb p k h3
  have r3 := (uns_rd3 p k hb).1 h3
  unfold Leb.uns at h ⊢
  rw [if_neg hb] at h ⊢
  by_cases h0 : (Leb.rdE k.toNat (p ++ [x]) 0).2 = 0
  · have := rdE_last k.toNat x p 0 r3 h0
    rw [if_pos h0] at h ⊢
    split
    · show (Leb.rdE _ _ _).1 = _; omega
    · rename_i hv; rw [if_neg hv] at h; simp at h
  · rw [if_neg h0] at h; exact absurd h h0
theorem sgn_last (p : List Nat) (x : Nat) (k : Int) (h3 : (Leb.sgn p k).2.2 = 3) (h : (Leb.sgn (p ++ [x]) k).2.2 = 0) : (Leb.sgn (p ++ [x]) k).2.1 = p.length + 1 := by
  have hb := sgn_nb p k h3
  have r3 := (sgn_rd3 p k hb).1 h3
  unfold Leb.sgn at h ⊢
  rw [if_neg hb] at h ⊢
  by_cases h0 : (Leb.rdE k.toNat (p ++ [x]) 0).2 = 0
  · have := rdE_last k.toNat x p 0 r3 h0
    rw [if_pos h0] at h ⊢
    split
    · show (Leb.rdE _ _ _).1 = _; omega
    · rename_i hv; rw [if_neg hv] at h; simp at h
  · rw [if_neg h0] at h; exact absurd h h0
def lenV : Value → Nat
  | .slice _ n _ => n
  | _ => 0
/-- the state of a number's reading behind j bytes: h is the block of the cursor that runs ahead -/
structure NRel (w : World) (f g c N : Nat) (l : List Nat) (r : Nat) (fa : Int) (fr t a h j : Nat) (A : Option Addr) (cp : Nat) (wr : World) : Prop where
  st : St wr f g c N l (r + j) fa fr t a
  ah : Blk wr h 87 (cuC f fr t (a + j : Nat))
  fr_ : Fr (· = f) w wr
  own : wr.ownsRow (h + 1) 5 1 (.slice A j cp) j ((((l.drop a).take (t - a)).take j).map U8)
  hh : h = w.heap.size
  hs : h + 1 ≤ wr.heap.size
  j10 : j ≤ 10
  cl : c < w.heap.size
  fl : f < w.heap.size
  gl : g < w.heap.size
theorem take_one_more (l : List Nat) (a t j N : Nat) (hl : l.length = N) (ht : t ≤ N) (hj : j < t - a) : ((l.drop a).take (t - a)).take (j + 1) = ((l.drop a).take (t - a)).take j ++ [l.getD (a + j) 0] := by
  have hlen : ((l.drop a).take (t - a)).length = t - a := by rw [List.length_take, List.length_drop]; omega
  rw [List.take_succ_eq_append_getElem (by omega)]
  congr 2
  rw [List.getElem_take, List.getElem_drop, List.getD_eq_getElem?_getD, List.getElem?_eq_getElem (by omega)]; rfl
theorem NRel.ahead {w wr : World} {f g c N r fr t a h j cp : Nat} {l : List Nat} {fa : Int} {A : Option Addr} (q : NRel w f g c N l r fa fr t a h j A cp wr) (hj : j ≤ t - a) : St wr f g h N l (r + j) fa fr t (a + j) :=
  ⟨q.st.fl, q.ah, by have := q.st.h1; omega, by have := q.st.h2; omega, q.st.h3⟩
theorem NRel.byt {w wr : World} {f g c N r fr t a h j cp : Nat} {l : List Nat} {fa : Int} {A : Option Addr} (q : NRel w f g c N l r fa fr t a h j A cp wr) : Byt wr A j cp (((l.drop a).take (t - a)).take j) := by
  have hx : ∀ x ∈ (((l.drop a).take (t - a)).take j), x < 256 := fun x hx => q.st.fl.all x (List.mem_of_mem_drop (List.mem_of_mem_take (List.mem_of_mem_take hx)))
  by_cases h0 : 0 < j
  · obtain ⟨g1, cp1, hv, hb, _⟩ := byt_of_own q.own h0 hx
    injection hv with e1 e2 e3
    rw [e1, e3]; exact hb
  · obtain rfl : j = 0 := by omega
    rcases q.own.2 with ⟨hv, _⟩ | ⟨g1, cap, cur, hv, _, _, hnc, hm, _⟩
    · injection hv with e1 e2 e3
      rw [e1, e3]; exact byt_nil wr
    · injection hv with e1 e2 e3
      rw [e3]; exact ⟨rfl, by simp, Nat.zero_le _, hm, fun h => by omega⟩
/-- one byte more has been read, and appended -/
theorem NRel.next {w wr w1 w2 : World} {f g c N r fr t a h j cp g1 cp1 : Nat} {l : List Nat} {fa : Int} {A : Option Addr} {o : Obj} (q : NRel w f g c N l r fa fr t a h j A cp wr) (hj : j < t - a) (hj9 : j ≤ 9)
    (s1 : St w1 f g h N l (r + j + 1) fa fr t (a + j + 1)) (f1 : Fr (FC f h) wr w1) (hown : w2.ownsRow (h + 1) 5 1 (.slice (some ⟨g1, 0, none⟩) (j + 1) cp1) (j + 1) ((((l.drop a).take (t - a)).take j).map U8 ++ [U8 (l.getD (a + j) 0)])) (hg : (w1.alloc o).grownBy w2 (Value.slice A j cp).ownBlock) :
    NRel w f g c N l r fa fr t a h (j + 1) (some ⟨g1, 0, none⟩) cp1 w2 := by
  have cl := q.cl
  have fl := q.fl
  have gl := q.gl
  have hh := q.hh
  have hlt := q.own.lt
  have h2 : Fr (fun k => (Value.slice A j cp).ownBlock = some k) w1 w2 := ((Fr.refl _ _).alloc o).trans (Fr.grown_ hg)
  have hno : ∀ k, k ≤ h → ¬ ((Value.slice A j cp).ownBlock = some k) := fun k hk e => by have := (hlt k e).1; omega
  have sz1 := f1.size
  have sz2 := h2.size
  have hs := q.hs
  refine ⟨⟨s1.fl.fr h2 (hno f (by omega)) (hno g (by omega)), ?_, q.st.h1, q.st.h2, q.st.h3⟩, s1.cu.fr h2 (hno h (Nat.le_refl _)), (q.fr_.new_ f1 (fun k hk => ?_)).new_ h2 (fun k hk => ?_), ?_, hh, by omega, by omega, cl, fl, gl⟩
  · refine (q.st.cu.fr f1 (fun e => ?_)).fr h2 (hno c (by omega))
    rcases e with e | e
    · exact q.st.fc e.symm
    · omega
  · rcases hk with e | e
    · exact .inl e
    · exact .inr (by omega)
  · exact .inr (by have := (hlt k hk).1; omega)
  · rw [take_one_more l a t j N q.st.fl.len q.st.h3 hj, List.map_append]; exact hown
def NumPost (f g c N : Nat) (l : List Nat) (r : Nat) (fa : Int) (fr t a : Nat) (k : Int) (w : World) (e : Ending) (w' : World) : Prop :=
  ∃ (x y r' a' : Nat), e = .returned (.tuple #[.int .u64 x, .int .i64 y]) ∧ St w' f g c N l r' fa fr t a' ∧ Fr (FC f c) w w' ∧ r ≤ r' ∧ r' ≤ r + 11 ∧
    ((y = 9 ∧ x = 0 ∧ a' = a ∧ 0 ≤ fa ∧ fa < r') ∨ (x = (Leb.uns ((l.drop a).take (t - a)) k).1 ∧ y = (Leb.uns ((l.drop a).take (t - a)) k).2.2 ∧ a' = a + (Leb.uns ((l.drop a).take (t - a)) k).2.1))
def NumPostS (f g c N : Nat) (l : List Nat) (r : Nat) (fa : Int) (fr t a : Nat) (k : Int) (w : World) (e : Ending) (w' : World) : Prop :=
  ∃ (x : Int) (y r' a' : Nat), e = .returned (.tuple #[.int .i64 x, .int .i64 y]) ∧ St w' f g c N l r' fa fr t a' ∧ Fr (FC f c) w w' ∧ r ≤ r' ∧ r' ≤ r + 11 ∧
    ((y = 9 ∧ x = 0 ∧ a' = a ∧ 0 ≤ fa ∧ fa < r') ∨ (x = (Leb.sgn ((l.drop a).take (t - a)) k).1 ∧ y = (Leb.sgn ((l.drop a).take (t - a)) k).2.2 ∧ a' = a + (Leb.sgn ((l.drop a).take (t - a)) k).2.1))
end Go.Proofs.YtggfaalodojjkaaGreatDoor
namespace Go.Proofs.YtggfaalodojjkaaGreatDoor
open Go.RowKit
set_option linter.unusedVariables false
theorem uns_nil (k : Int) : (Leb.uns [] k).2.2 ≠ 0 := by
  unfold Leb.uns
  split
  · simp
  · simp [Leb.rdE]
theorem sgn_nil (k : Int) : (Leb.sgn [] k).2.2 ≠ 0 := by
  unfold Leb.sgn
  split
  · simp
  · simp [Leb.rdE]
theorem own_form {w : World} {B E n : Nat} {v : Value} {xs : List Value} (h : w.ownsRow B E 1 v n xs) (hn : 0 < n) : ∃ g cap, v = .slice (some ⟨g, 0, none⟩) n cap := by
  rcases h.2 with ⟨_, h0⟩ | ⟨g, cap, _, hv, _⟩
  · omega
  · exact ⟨g, cap, hv⟩
theorem NRel.own_after {w wr w1 : World} {f g c N r fr t a h j cp : Nat} {l : List Nat} {fa : Int} {A : Option Addr} (q : NRel w f g c N l r fa fr t a h j A cp wr) (f1 : Fr (FC f h) wr w1) :
    w1.ownsRow (h + 1) 5 1 (.slice A j cp) j ((((l.drop a).take (t - a)).take j).map U8) := by
  refine ⟨q.own.1, ?_⟩
  rcases q.own.2 with h0 | ⟨g1, cap, cur, hv, hB, hg, hr⟩
  · exact .inl h0
  · refine .inr ⟨g1, cap, cur, hv, hB, f1.keep hg (fun e => ?_), hr⟩
    have := q.fl
    have := q.hh
    rcases e with e | e <;> omega

set_option maxHeartbeats 2000000 in
set_option maxRecDepth 100000 in
theorem number_u64 (w : World) (f g c N : Nat) (l : List Nat) (r : Nat) (fa : Int) (fr t a : Nat) (k : Int) (h : St w f g c N l r fa fr t a) (hr : r < 100000) :
    Calls Tryz.prog 126 #[.pointer (some ⟨c, 0, none⟩), .int .i64 k, .func (.func 127) #[] #[]] w (NumPost f g c N l r fa fr t a k w) := by
  obtain ⟨i0, hi, hz0, hz1, hz2⟩ := info_parts info5
  have c0 : w.cell? ⟨c, 0, none⟩ = some (.pointer (some ⟨f, 0, none⟩)) := h.cu.cell 0
  have c1 : w.cell? ⟨c, 1, none⟩ = some (.int .i64 fr) := h.cu.cell 1
  have c2 : w.cell? ⟨c, 2, none⟩ = some (.int .i64 t) := h.cu.cell 2
  have c3 : w.cell? ⟨c, 3, none⟩ = some (.int .i64 a) := h.cu.cell 3
  obtain ⟨R, hR⟩ : ∃ R, R = (l.drop a).take (t - a) := ⟨_, rfl⟩
  have hRl : Hid (R.length = t - a) := Lib.hid (by rw [hR, List.length_take, List.length_drop]; have := h.fl.len; have := h.h3; omega)
  have H0 : Hid (NRel w f g c N l r fa fr t a w.heap.size 0 none 0 (w.alloc (.cells (cuC f fr t a) 87))) := Lib.hid (by
    have hn := Blk.new w 87 (cuC f fr t a)
    exact ⟨⟨⟨h.fl.blk.alloc _, h.fl.byt.alloc _, h.fl.len, h.fl.lim, h.fl.all⟩, h.cu.alloc _, h.h1, h.h2, h.h3⟩, hn, (Fr.refl _ _).alloc _, by simpa using World.ownsRow_nil _ _ _ _, rfl, by simp, by omega, h.cu.lt, h.fl.blk.lt, h.fl.byt.lt⟩)
  have HRE := Lib.hid hR
  have hat := h.h2
  have htN : t ≤ 65536 := Nat.le_trans h.h3 h.fl.lim
  have hNN : Hid (l.length = N ∧ t ≤ N) := Lib.hid ⟨h.fl.len, h.h3⟩
  clear h hR
  go_enter Tryz.func126, Tryz.ntmps126
  go_wp2_with (go_at_call 127; refine (unsigned_any none 0 0 [] k _ (byt_nil _)).mono ?_; rintro e w' ⟨rfl, rfl⟩)
  go_loopw [9, 10, 12] (fun v9 v10 v12 wr => ∃ (j : Nat) (A : Option Addr) (cp : Nat) (x : Nat) (y : Nat), j ≤ t - a ∧ v9 = .slice A j cp ∧ v10 = .int .u64 x ∧ v12 = .int .i64 y ∧ Hid (x = (Leb.uns (R.take j) k).1) ∧ Hid (y = (Leb.uns (R.take j) k).2.2) ∧ Hid (0 < j → (Leb.uns (R.take (j - 1)) k).2.2 = 3) ∧ Hid (NRel w f g c N l r fa fr t a w.heap.size j A cp wr)) (fun v9 _ _ _ => t - a - lenV v9)
  case atStart => exact ⟨0, none, 0, _, _, by omega, rfl, rfl, rfl, Lib.hid rfl, Lib.hid rfl, Lib.hid (fun q => by omega), H0⟩
  case round =>
    obtain ⟨j, A, cp, x, y, hj, rfl, rfl, rfl, Hx, Hy, Hl, HN⟩ := hrel
    clear c0 c1 c2 c3
    have hRj : Hid (R.take j ++ R.drop j = R) := Lib.hid (List.take_append_drop j R)
    by_cases hy3 : y = 3
    · subst hy3
      have hj9 : j ≤ 9 := by
        have q := uns_len _ _ Hy.out.symm
        rw [List.length_take, hRl.out] at q
        omega
      have hja := HN.out.ahead hj
      by_cases hjt : j < t - a
      · by_cases hfa : fa < 0 ∨ (0 ≤ fa ∧ ((r + j : Nat) : Int) < fa)
        · have HB := Lib.hid (Byte_ok wr f g w.heap.size N l (r + j) fa fr t (a + j) hja (by omega) (by omega) hfa)
          clear hja hfa
          obtain ⟨z, hz⟩ : ∃ z, z = l.getD (a + j) 0 := ⟨_, rfl⟩
          rw [← hz] at HB
          have HZ := Lib.hid hz
          clear hz
          have HE3 : Hid ((Leb.uns (R.take (j + 1 - 1)) k).2.2 = 3) := Lib.hid Hy.out.symm
          go_wp2_with (first
            | (go_at_call 97; refine HB.out.mono ?_; rintro e w1 ⟨rfl, hs1, hf1⟩; have HS1 := Lib.hid hs1; have HF1 := Lib.hid hf1; have HO1 : Hid (w1.ownsRow (w.heap.size + 1) 5 1 (.slice A j cp) j ((((l.drop a).take (t - a)).take j).map U8)) := Lib.hid (HN.out.own_after hf1); have hB1 : Hid (w.heap.size + 1 ≤ w1.heap.size) := Lib.hid (Nat.le_trans HN.out.hs hf1.size); clear hs1 hf1)
            | (at_builtin
               refine wpList_append_own _ rfl (.tmp 37) (.tmp 39) 27 rfl (w.heap.size + 1) 5 i0 _ 1 1 Tryz.underlying27 hi hz0 hz1 hz2 rfl (by decide) (.slice A j cp) j _ rfl (HO1.out.alloc _) ⟨w1.heap.size, 0, none⟩ 1 1 [U8 z] rfl rfl (cell_new _ _ _) ?d1 ?d2 ?d3 ?d4 ?_
               case d1 => intro u hu; simp at hu; subst hu; rfl
               case d2 => unfold maxLen; omega
               case d3 => omega
               case d4 => have := hB1.out; simp; omega
               intro v2 w2 hown2 hg2 _
               obtain ⟨g2, cp2, hv2⟩ : ∃ g2 cp2, v2 = .slice (some ⟨g2, 0, none⟩) (j + 1) cp2 := own_form hown2 (by omega)
               rw [hv2] at hown2 ⊢
               have HN2 : Hid (NRel w f g c N l r fa fr t a w.heap.size (j + 1) (some ⟨g2, 0, none⟩) cp2 w2) := Lib.hid (HN.out.next hjt hj9 HS1.out HF1.out (by rw [← HZ.out]; exact hown2) hg2)
               clear hown2 hg2 hv2)
            | (go_at_call 127; refine (unsigned_any _ _ _ (R.take (j + 1)) k _ (by rw [HRE.out]; exact HN2.out.byt)).mono ?_; rintro e w3 ⟨rfl, rfl⟩))
          go_roundw
          case rel => exact ⟨j + 1, some ⟨g2, 0, none⟩, cp2, _, _, by omega, rfl, rfl, rfl, Lib.hid rfl, Lib.hid rfl, Lib.hid (fun _ => HE3.out), HN2⟩
          case measure => simp [lenV]; omega
        · have hfa2 : 0 ≤ fa ∧ fa ≤ ((r + j : Nat) : Int) := by omega
          have HB := Lib.hid (Byte_fail wr f g w.heap.size N l (r + j) fa fr t (a + j) hja (by omega) (by omega) hfa2.1 hfa2.2)
          have HFA := Lib.hid hfa2
          clear hja hfa hfa2
          go_wp2_with (go_at_call 97; refine HB.out.mono ?_; rintro e w1 ⟨rfl, hs1, hf1⟩; have HS1 := Lib.hid hs1; have HF1 := Lib.hid hf1; clear hs1 hf1)
          go_ret2
          have hq := HN.out
          have hcu : Blk w1 c 87 (cuC f fr t a) := hq.st.cu.fr HF1.out (fun e => by
            rcases e with e | e
            · exact hq.st.fc e.symm
            · have := hq.cl; omega)
          refine ⟨0, 9, r + j + 1, a, rfl, ⟨HS1.out.fl, hcu, hq.st.h1, hq.st.h2, hq.st.h3⟩, ?_, by omega, by omega, .inl ⟨rfl, rfl, rfl, HFA.out.1, by have := HFA.out.2; omega⟩⟩
          exact (hq.fr_.more (fun i hi => .inl hi)).new_ HF1.out (fun i hi => by
            rcases hi with e | e
            · exact .inl (.inl e)
            · exact .inr (by omega))
      · have HB := Lib.hid (Byte_bad wr f g w.heap.size N l (r + j) fa fr t (a + j) hja (by omega))
        have HU : Hid (Leb.uns R k = Leb.uns (R.take j) k) := Lib.hid (by rw [List.take_of_length_le (by rw [hRl.out]; omega)])
        clear hja
        go_wp2_with (go_at_call 97; refine HB.out.mono ?_; rintro e w1 ⟨rfl, k1, rfl⟩)
        go_ret2
        have hq := HN.out
        have hz := uns_zero (R.take j) k (by rw [← Hy.out]; decide)
        refine ⟨0, 3, r + j, a, rfl, hq.st.drewN _, (hq.fr_.more (fun i hi => .inl hi)).drewN _, by omega, by omega, .inr ?_⟩
        rw [← HRE.out, HU.out, hz.1, hz.2, ← Hy.out]
        exact ⟨rfl, rfl, rfl⟩
    · have HU : Hid (Leb.uns R k = Leb.uns (R.take j) k) := Lib.hid (by
        have := uns_app (R.take j) (R.drop j) k (fun e => hy3 (by rw [Hy.out, e]))
        rw [hRj.out] at this; exact this)
      have hyb : (((y : Nat) : Int) == 3) = false := by
        have := dec_beq y 3
        rw [show ((3 : Nat) : Int) = 3 from rfl] at this
        rw [this]; simp [hy3]
      have h10 : j ≤ 10 := HN.out.j10
      clear hy3
      by_cases hy0 : y = 0
      · subst hy0
        have hj0 : 0 < j := by
          rcases Nat.eq_zero_or_pos j with e | e
          · subst e
            exact absurd Hy.out.symm (uns_nil k)
          · exact e
        have HSZ : Hid ((Leb.uns (R.take j) k).2.1 = j) := Lib.hid (by
          have hjR : j - 1 < R.length := by rw [hRl.out]; omega
          have e := List.take_succ_eq_append_getElem hjR
          rw [show j - 1 + 1 = j by omega] at e
          have h0 := Hy.out.symm
          rw [e] at h0 ⊢
          rw [uns_last _ _ _ (Hl.out hj0) h0, List.length_take]
          omega)
        have a3 : wr.cell? ⟨w.heap.size, 3, none⟩ = some (.int .i64 (a + j : Nat)) := HN.out.ah.cell 3
        have d3 : wr.cell? ⟨c, 3, none⟩ = some (.int .i64 a) := HN.out.st.cu.cell 3
        have z3 := HN.out.st.cu.frozen 3
        go_wp2
        go_ret2
        have hq := HN.out
        have hmv := hq.st.moved (a + j) (by have := hq.st.h1; omega) (by omega)
        have hfin : Fr (FC f c) w (wr.setCell ⟨c, 3, none⟩ (.int .i64 ((a + j : Nat) : Int))) := (hq.fr_.more (fun i hi => .inl hi)).set_ (p := ⟨c, 3, none⟩) (.inr rfl) _
        rw [Int.natCast_add] at hmv hfin
        refine ⟨x, 0, r + j, a + j, rfl, hmv, hfin, by omega, by omega, .inr ?_⟩
        rw [← HRE.out, HU.out, HSZ.out]
        exact ⟨Hx.out, Hy.out, rfl⟩
      · have hyz : (((y : Nat) : Int) == 0) = false := by
          have := dec_beq y 0
          rw [show ((0 : Nat) : Int) = 0 from rfl] at this
          rw [this]; simp [hy0]
        have HZ := Lib.hid (uns_zero (R.take j) k (by rw [← Hy.out]; exact hy0))
        clear hy0
        go_wp2
        go_ret2
        have hq := HN.out
        refine ⟨x, y, r + j, a, rfl, hq.st, hq.fr_.more (fun i hi => .inl hi), by omega, by omega, .inr ?_⟩
        rw [← HRE.out, HU.out, HZ.out.2]
        exact ⟨Hx.out, Hy.out, rfl⟩

set_option maxHeartbeats 2000000 in
set_option maxRecDepth 100000 in
theorem number_i64 (w : World) (f g c N : Nat) (l : List Nat) (r : Nat) (fa : Int) (fr t a : Nat) (k : Int) (h : St w f g c N l r fa fr t a) (hr : r < 100000) :
    Calls Tryz.prog 128 #[.pointer (some ⟨c, 0, none⟩), .int .i64 k, .func (.func 129) #[] #[]] w (NumPostS f g c N l r fa fr t a k w) := by
  obtain ⟨i0, hi, hz0, hz1, hz2⟩ := info_parts info5
  have c0 : w.cell? ⟨c, 0, none⟩ = some (.pointer (some ⟨f, 0, none⟩)) := h.cu.cell 0
  have c1 : w.cell? ⟨c, 1, none⟩ = some (.int .i64 fr) := h.cu.cell 1
  have c2 : w.cell? ⟨c, 2, none⟩ = some (.int .i64 t) := h.cu.cell 2
  have c3 : w.cell? ⟨c, 3, none⟩ = some (.int .i64 a) := h.cu.cell 3
  obtain ⟨R, hR⟩ : ∃ R, R = (l.drop a).take (t - a) := ⟨_, rfl⟩
  have hRl : Hid (R.length = t - a) := Lib.hid (by rw [hR, List.length_take, List.length_drop]; have := h.fl.len; have := h.h3; omega)
  have H0 : Hid (NRel w f g c N l r fa fr t a w.heap.size 0 none 0 (w.alloc (.cells (cuC f fr t a) 87))) := Lib.hid (by
    have hn := Blk.new w 87 (cuC f fr t a)
    exact ⟨⟨⟨h.fl.blk.alloc _, h.fl.byt.alloc _, h.fl.len, h.fl.lim, h.fl.all⟩, h.cu.alloc _, h.h1, h.h2, h.h3⟩, hn, (Fr.refl _ _).alloc _, by simpa using World.ownsRow_nil _ _ _ _, rfl, by simp, by omega, h.cu.lt, h.fl.blk.lt, h.fl.byt.lt⟩)
  have HRE := Lib.hid hR
  have hat := h.h2
  have htN : t ≤ 65536 := Nat.le_trans h.h3 h.fl.lim
  have hNN : Hid (l.length = N ∧ t ≤ N) := Lib.hid ⟨h.fl.len, h.h3⟩
  clear h hR
  go_enter Tryz.func128, Tryz.ntmps128
  go_wp2_with (go_at_call 129; refine (signed_any none 0 0 [] k _ (byt_nil _)).mono ?_; rintro e w' ⟨rfl, rfl⟩)
  go_loopw [9, 10, 12] (fun v9 v10 v12 wr => ∃ (j : Nat) (A : Option Addr) (cp : Nat) (x : Int) (y : Nat), j ≤ t - a ∧ v9 = .slice A j cp ∧ v10 = .int .i64 x ∧ v12 = .int .i64 y ∧ Hid (x = (Leb.sgn (R.take j) k).1) ∧ Hid (y = (Leb.sgn (R.take j) k).2.2) ∧ Hid (0 < j → (Leb.sgn (R.take (j - 1)) k).2.2 = 3) ∧ Hid (NRel w f g c N l r fa fr t a w.heap.size j A cp wr)) (fun v9 _ _ _ => t - a - lenV v9)
  case atStart => exact ⟨0, none, 0, _, _, by omega, rfl, rfl, rfl, Lib.hid rfl, Lib.hid rfl, Lib.hid (fun q => by omega), H0⟩
  case round =>
    obtain ⟨j, A, cp, x, y, hj, rfl, rfl, rfl, Hx, Hy, Hl, HN⟩ := hrel
    clear c0 c1 c2 c3
    have hRj : Hid (R.take j ++ R.drop j = R) := Lib.hid (List.take_append_drop j R)
    by_cases hy3 : y = 3
    · subst hy3
      have hj9 : j ≤ 9 := by
        have q := sgn_len _ _ Hy.out.symm
        rw [List.length_take, hRl.out] at q
        omega
      have hja := HN.out.ahead hj
      by_cases hjt : j < t - a
      · by_cases hfa : fa < 0 ∨ (0 ≤ fa ∧ ((r + j : Nat) : Int) < fa)
        · have HB := Lib.hid (Byte_ok wr f g w.heap.size N l (r + j) fa fr t (a + j) hja (by omega) (by omega) hfa)
          clear hja hfa
          obtain ⟨z, hz⟩ : ∃ z, z = l.getD (a + j) 0 := ⟨_, rfl⟩
          rw [← hz] at HB
          have HZ := Lib.hid hz
          clear hz
          have HE3 : Hid ((Leb.sgn (R.take (j + 1 - 1)) k).2.2 = 3) := Lib.hid Hy.out.symm
          go_wp2_with (first
            | (go_at_call 97; refine HB.out.mono ?_; rintro e w1 ⟨rfl, hs1, hf1⟩; have HS1 := Lib.hid hs1; have HF1 := Lib.hid hf1; have HO1 : Hid (w1.ownsRow (w.heap.size + 1) 5 1 (.slice A j cp) j ((((l.drop a).take (t - a)).take j).map U8)) := Lib.hid (HN.out.own_after hf1); have hB1 : Hid (w.heap.size + 1 ≤ w1.heap.size) := Lib.hid (Nat.le_trans HN.out.hs hf1.size); clear hs1 hf1)
            | (at_builtin
               refine wpList_append_own _ rfl (.tmp 37) (.tmp 39) 27 rfl (w.heap.size + 1) 5 i0 _ 1 1 Tryz.underlying27 hi hz0 hz1 hz2 rfl (by decide) (.slice A j cp) j _ rfl (HO1.out.alloc _) ⟨w1.heap.size, 0, none⟩ 1 1 [U8 z] rfl rfl (cell_new _ _ _) ?d1 ?d2 ?d3 ?d4 ?_
               case d1 => intro u hu; simp at hu; subst hu; rfl
               case d2 => unfold maxLen; omega
               case d3 => omega
               case d4 => have := hB1.out; simp; omega
               intro v2 w2 hown2 hg2 _
               obtain ⟨g2, cp2, hv2⟩ : ∃ g2 cp2, v2 = .slice (some ⟨g2, 0, none⟩) (j + 1) cp2 := own_form hown2 (by omega)
               rw [hv2] at hown2 ⊢
               have HN2 : Hid (NRel w f g c N l r fa fr t a w.heap.size (j + 1) (some ⟨g2, 0, none⟩) cp2 w2) := Lib.hid (HN.out.next hjt hj9 HS1.out HF1.out (by rw [← HZ.out]; exact hown2) hg2)
               clear hown2 hg2 hv2)
            | (go_at_call 129; refine (signed_any _ _ _ (R.take (j + 1)) k _ (by rw [HRE.out]; exact HN2.out.byt)).mono ?_; rintro e w3 ⟨rfl, rfl⟩))
          go_roundw
          case rel => exact ⟨j + 1, some ⟨g2, 0, none⟩, cp2, _, _, by omega, rfl, rfl, rfl, Lib.hid rfl, Lib.hid rfl, Lib.hid (fun _ => HE3.out), HN2⟩
          case measure => simp [lenV]; omega
        · have hfa2 : 0 ≤ fa ∧ fa ≤ ((r + j : Nat) : Int) := by omega
          have HB := Lib.hid (Byte_fail wr f g w.heap.size N l (r + j) fa fr t (a + j) hja (by omega) (by omega) hfa2.1 hfa2.2)
          have HFA := Lib.hid hfa2
          clear hja hfa hfa2
          go_wp2_with (go_at_call 97; refine HB.out.mono ?_; rintro e w1 ⟨rfl, hs1, hf1⟩; have HS1 := Lib.hid hs1; have HF1 := Lib.hid hf1; clear hs1 hf1)
          go_ret2
          have hq := HN.out
          have hcu : Blk w1 c 87 (cuC f fr t a) := hq.st.cu.fr HF1.out (fun e => by
            rcases e with e | e
            · exact hq.st.fc e.symm
            · have := hq.cl; omega)
          refine ⟨0, 9, r + j + 1, a, rfl, ⟨HS1.out.fl, hcu, hq.st.h1, hq.st.h2, hq.st.h3⟩, ?_, by omega, by omega, .inl ⟨rfl, rfl, rfl, HFA.out.1, by have := HFA.out.2; omega⟩⟩
          exact (hq.fr_.more (fun i hi => .inl hi)).new_ HF1.out (fun i hi => by
            rcases hi with e | e
            · exact .inl (.inl e)
            · exact .inr (by omega))
      · have HB := Lib.hid (Byte_bad wr f g w.heap.size N l (r + j) fa fr t (a + j) hja (by omega))
        have HU : Hid (Leb.sgn R k = Leb.sgn (R.take j) k) := Lib.hid (by rw [List.take_of_length_le (by rw [hRl.out]; omega)])
        clear hja
        go_wp2_with (go_at_call 97; refine HB.out.mono ?_; rintro e w1 ⟨rfl, k1, rfl⟩)
        go_ret2
        have hq := HN.out
        have hz := sgn_zero (R.take j) k (by rw [← Hy.out]; decide)
        refine ⟨0, 3, r + j, a, rfl, hq.st.drewN _, (hq.fr_.more (fun i hi => .inl hi)).drewN _, by omega, by omega, .inr ?_⟩
        rw [← HRE.out, HU.out, hz.1, hz.2, ← Hy.out]
        exact ⟨rfl, rfl, rfl⟩
    · have HU : Hid (Leb.sgn R k = Leb.sgn (R.take j) k) := Lib.hid (by
        have := sgn_app (R.take j) (R.drop j) k (fun e => hy3 (by rw [Hy.out, e]))
        rw [hRj.out] at this; exact this)
      have hyb : (((y : Nat) : Int) == 3) = false := by
        have := dec_beq y 3
        rw [show ((3 : Nat) : Int) = 3 from rfl] at this
        rw [this]; simp [hy3]
      have h10 : j ≤ 10 := HN.out.j10
      clear hy3
      by_cases hy0 : y = 0
      · subst hy0
        have hj0 : 0 < j := by
          rcases Nat.eq_zero_or_pos j with e | e
          · subst e
            exact absurd Hy.out.symm (sgn_nil k)
          · exact e
        have HSZ : Hid ((Leb.sgn (R.take j) k).2.1 = j) := Lib.hid (by
          have hjR : j - 1 < R.length := by rw [hRl.out]; omega
          have e := List.take_succ_eq_append_getElem hjR
          rw [show j - 1 + 1 = j by omega] at e
          have h0 := Hy.out.symm
          rw [e] at h0 ⊢
          rw [sgn_last _ _ _ (Hl.out hj0) h0, List.length_take]
          omega)
        have a3 : wr.cell? ⟨w.heap.size, 3, none⟩ = some (.int .i64 (a + j : Nat)) := HN.out.ah.cell 3
        have d3 : wr.cell? ⟨c, 3, none⟩ = some (.int .i64 a) := HN.out.st.cu.cell 3
        have z3 := HN.out.st.cu.frozen 3
        go_wp2
        go_ret2
        have hq := HN.out
        have hmv := hq.st.moved (a + j) (by have := hq.st.h1; omega) (by omega)
        have hfin : Fr (FC f c) w (wr.setCell ⟨c, 3, none⟩ (.int .i64 ((a + j : Nat) : Int))) := (hq.fr_.more (fun i hi => .inl hi)).set_ (p := ⟨c, 3, none⟩) (.inr rfl) _
        rw [Int.natCast_add] at hmv hfin
        refine ⟨x, 0, r + j, a + j, rfl, hmv, hfin, by omega, by omega, .inr ?_⟩
        rw [← HRE.out, HU.out, HSZ.out]
        exact ⟨Hx.out, Hy.out, rfl⟩
      · have hyz : (((y : Nat) : Int) == 0) = false := by
          have := dec_beq y 0
          rw [show ((0 : Nat) : Int) = 0 from rfl] at this
          rw [this]; simp [hy0]
        have HZ := Lib.hid (sgn_zero (R.take j) k (by rw [← Hy.out]; exact hy0))
        clear hy0
        go_wp2
        go_ret2
        have hq := HN.out
        refine ⟨x, y, r + j, a, rfl, hq.st, hq.fr_.more (fun i hi => .inl hi), by omega, by omega, .inr ?_⟩
        rw [← HRE.out, HU.out, HZ.out.2]
        exact ⟨Hx.out, Hy.out, rfl⟩
end Go.Proofs.YtggfaalodojjkaaGreatDoor
namespace Go.Proofs.YtggfaalodojjkaaGreatDoor
open Go.RowKit
set_option linter.unusedVariables false
set_option maxHeartbeats 400000 in
set_option maxRecDepth 100000 in
theorem cUnsigned (w : World) (f g c N : Nat) (l : List Nat) (r : Nat) (fa : Int) (fr t a : Nat) (k : Int) (h : St w f g c N l r fa fr t a) (hr : r < 100000) :
    Calls Tryz.prog 102 #[.pointer (some ⟨c, 0, none⟩), .int .i64 k] w (NumPost f g c N l r fa fr t a k w) := by
  have HN := Lib.hid (number_u64 w f g c N l r fa fr t a k h hr)
  clear h
  go_enter Tryz.func102, Tryz.ntmps102
  go_wp2_with (go_at_call 126; refine HN.out.mono ?_; rintro e w' ⟨x, y, r', a', rfl, h1, h2, h3, h4, h5⟩; have H1 := Lib.hid h1; have H2 := Lib.hid h2; have H5 := Lib.hid h5; clear h1 h2 h5)
  go_ret2
  exact ⟨x, y, r', a', rfl, H1.out, H2.out, h3, h4, H5.out⟩
set_option maxHeartbeats 400000 in
set_option maxRecDepth 100000 in
theorem cSigned (w : World) (f g c N : Nat) (l : List Nat) (r : Nat) (fa : Int) (fr t a : Nat) (k : Int) (h : St w f g c N l r fa fr t a) (hr : r < 100000) :
    Calls Tryz.prog 107 #[.pointer (some ⟨c, 0, none⟩), .int .i64 k] w (NumPostS f g c N l r fa fr t a k w) := by
  have HN := Lib.hid (number_i64 w f g c N l r fa fr t a k h hr)
  clear h
  go_enter Tryz.func107, Tryz.ntmps107
  go_wp2_with (go_at_call 128; refine HN.out.mono ?_; rintro e w' ⟨x, y, r', a', rfl, h1, h2, h3, h4, h5⟩; have H1 := Lib.hid h1; have H2 := Lib.hid h2; have H5 := Lib.hid h5; clear h1 h2 h5)
  go_ret2
  exact ⟨x, y, r', a', rfl, H1.out, H2.out, h3, h4, H5.out⟩
end Go.Proofs.YtggfaalodojjkaaGreatDoor
namespace Go.Proofs.YtggfaalodojjkaaGreatDoor
open Go.RowKit
set_option linter.unusedVariables false
set_option linter.unusedSimpArgs false
def NumQ (f g c N : Nat) (l : List Nat) (r : Nat) (fa : Int) (fr t a : Nat) (k : Int) (w : World) (e : Ending) (w' : World) : Prop :=
  ∃ (x y r' a' : Nat), e = .returned (.tuple #[.int .u64 x, .int .i64 y]) ∧ St w' f g c N l r' fa fr t a' ∧ Fr (FC f c) w w' ∧ r ≤ r' ∧ r' ≤ r + 11 ∧
    ((y = 9 ∧ x = 0 ∧ a' = a ∧ 0 ≤ fa ∧ fa < r') ∨ (x = (Leb.uns ((l.drop a).take (t - a)) k).1 ∧ y = (Leb.uns ((l.drop a).take (t - a)) k).2.2 ∧ a' = a + (Leb.uns ((l.drop a).take (t - a)) k).2.1 ∧ (y = 0 → (fa < 0 ∨ (r' : Int) ≤ fa) ∧ r' + a = r + a')))
def NumQS (f g c N : Nat) (l : List Nat) (r : Nat) (fa : Int) (fr t a : Nat) (k : Int) (w : World) (e : Ending) (w' : World) : Prop :=
  ∃ (x : Int) (y r' a' : Nat), e = .returned (.tuple #[.int .i64 x, .int .i64 y]) ∧ St w' f g c N l r' fa fr t a' ∧ Fr (FC f c) w w' ∧ r ≤ r' ∧ r' ≤ r + 11 ∧
    ((y = 9 ∧ x = 0 ∧ a' = a ∧ 0 ≤ fa ∧ fa < r') ∨ (x = (Leb.sgn ((l.drop a).take (t - a)) k).1 ∧ y = (Leb.sgn ((l.drop a).take (t - a)) k).2.2 ∧ a' = a + (Leb.sgn ((l.drop a).take (t - a)) k).2.1 ∧ (y = 0 → (fa < 0 ∨ (r' : Int) ≤ fa) ∧ r' + a = r + a')))
set_option maxHeartbeats 2000000 in
set_option maxRecDepth 100000 in
theorem numq_u64 (w : World) (f g c N : Nat) (l : List Nat) (r : Nat) (fa : Int) (fr t a : Nat) (k : Int) (h : St w f g c N l r fa fr t a) (hr : r < 100000) :
    Calls Tryz.prog 126 #[.pointer (some ⟨c, 0, none⟩), .int .i64 k, .func (.func 127) #[] #[]] w (NumQ f g c N l r fa fr t a k w) := by
  obtain ⟨i0, hi, hz0, hz1, hz2⟩ := info_parts info5
  have c0 : w.cell? ⟨c, 0, none⟩ = some (.pointer (some ⟨f, 0, none⟩)) := h.cu.cell 0
  have c1 : w.cell? ⟨c, 1, none⟩ = some (.int .i64 fr) := h.cu.cell 1
  have c2 : w.cell? ⟨c, 2, none⟩ = some (.int .i64 t) := h.cu.cell 2
  have c3 : w.cell? ⟨c, 3, none⟩ = some (.int .i64 a) := h.cu.cell 3
  obtain ⟨R, hR⟩ : ∃ R, R = (l.drop a).take (t - a) := ⟨_, rfl⟩
  have hRl : Hid (R.length = t - a) := Lib.hid (by rw [hR, List.length_take, List.length_drop]; have := h.fl.len; have := h.h3; omega)
  have H0 : Hid (NRel w f g c N l r fa fr t a w.heap.size 0 none 0 (w.alloc (.cells (cuC f fr t a) 87))) := Lib.hid (by
    have hn := Blk.new w 87 (cuC f fr t a)
    exact ⟨⟨⟨h.fl.blk.alloc _, h.fl.byt.alloc _, h.fl.len, h.fl.lim, h.fl.all⟩, h.cu.alloc _, h.h1, h.h2, h.h3⟩, hn, (Fr.refl _ _).alloc _, by simpa using World.ownsRow_nil _ _ _ _, rfl, by simp, by omega, h.cu.lt, h.fl.blk.lt, h.fl.byt.lt⟩)
  have HRE := Lib.hid hR
  have hat := h.h2
  have htN : t ≤ 65536 := Nat.le_trans h.h3 h.fl.lim
  have hNN : Hid (l.length = N ∧ t ≤ N) := Lib.hid ⟨h.fl.len, h.h3⟩
  clear h hR
  go_enter Tryz.func126, Tryz.ntmps126
  go_wp2_with (go_at_call 127; refine (unsigned_any none 0 0 [] k _ (byt_nil _)).mono ?_; rintro e w' ⟨rfl, rfl⟩)
  go_loopw [9, 10, 12] (fun v9 v10 v12 wr => ∃ (j : Nat) (A : Option Addr) (cp : Nat) (x : Nat) (y : Nat), j ≤ t - a ∧ v9 = .slice A j cp ∧ v10 = .int .u64 x ∧ v12 = .int .i64 y ∧ Hid (x = (Leb.uns (R.take j) k).1) ∧ Hid (y = (Leb.uns (R.take j) k).2.2) ∧ Hid (0 < j → (Leb.uns (R.take (j - 1)) k).2.2 = 3) ∧ Hid (NRel w f g c N l r fa fr t a w.heap.size j A cp wr) ∧ Hid (0 < j → fa < 0 ∨ ((r + j : Nat) : Int) ≤ fa)) (fun v9 _ _ _ => t - a - lenV v9)
  case atStart => exact ⟨0, none, 0, _, _, by omega, rfl, rfl, rfl, Lib.hid rfl, Lib.hid rfl, Lib.hid (fun q => by omega), H0, Lib.hid (fun q => by omega)⟩
  case round =>
    obtain ⟨j, A, cp, x, y, hj, rfl, rfl, rfl, Hx, Hy, Hl, HN, HFj⟩ := hrel
    clear c0 c1 c2 c3
    have hRj : Hid (R.take j ++ R.drop j = R) := Lib.hid (List.take_append_drop j R)
    by_cases hy3 : y = 3
    · subst hy3
      have hj9 : j ≤ 9 := by
        have q := uns_len _ _ Hy.out.symm
        rw [List.length_take, hRl.out] at q
        omega
      have hja := HN.out.ahead hj
      by_cases hjt : j < t - a
      · by_cases hfa : fa < 0 ∨ (0 ≤ fa ∧ ((r + j : Nat) : Int) < fa)
        · have HB := Lib.hid (Byte_ok wr f g w.heap.size N l (r + j) fa fr t (a + j) hja (by omega) (by omega) hfa)
          have HFn : Hid (0 < j + 1 → fa < 0 ∨ ((r + (j + 1) : Nat) : Int) ≤ fa) := Lib.hid (fun _ => by omega)
          clear hja hfa
          obtain ⟨z, hz⟩ : ∃ z, z = l.getD (a + j) 0 := ⟨_, rfl⟩
          rw [← hz] at HB
          have HZ := Lib.hid hz
          clear hz
          have HE3 : Hid ((Leb.uns (R.take (j + 1 - 1)) k).2.2 = 3) := Lib.hid Hy.out.symm
          go_wp2_with (first
            | (go_at_call 97; refine HB.out.mono ?_; rintro e w1 ⟨rfl, hs1, hf1⟩; have HS1 := Lib.hid hs1; have HF1 := Lib.hid hf1; have HO1 : Hid (w1.ownsRow (w.heap.size + 1) 5 1 (.slice A j cp) j ((((l.drop a).take (t - a)).take j).map U8)) := Lib.hid (HN.out.own_after hf1); have hB1 : Hid (w.heap.size + 1 ≤ w1.heap.size) := Lib.hid (Nat.le_trans HN.out.hs hf1.size); clear hs1 hf1)
            | (at_builtin
               refine wpList_append_own _ rfl (.tmp 37) (.tmp 39) 27 rfl (w.heap.size + 1) 5 i0 _ 1 1 Tryz.underlying27 hi hz0 hz1 hz2 rfl (by decide) (.slice A j cp) j _ rfl (HO1.out.alloc _) ⟨w1.heap.size, 0, none⟩ 1 1 [U8 z] rfl rfl (cell_new _ _ _) ?d1 ?d2 ?d3 ?d4 ?_
               case d1 => intro u hu; simp at hu; subst hu; rfl
               case d2 => unfold maxLen; omega
               case d3 => omega
               case d4 => have := hB1.out; simp; omega
               intro v2 w2 hown2 hg2 _
               obtain ⟨g2, cp2, hv2⟩ : ∃ g2 cp2, v2 = .slice (some ⟨g2, 0, none⟩) (j + 1) cp2 := own_form hown2 (by omega)
               rw [hv2] at hown2 ⊢
               have HN2 : Hid (NRel w f g c N l r fa fr t a w.heap.size (j + 1) (some ⟨g2, 0, none⟩) cp2 w2) := Lib.hid (HN.out.next hjt hj9 HS1.out HF1.out (by rw [← HZ.out]; exact hown2) hg2)
               clear hown2 hg2 hv2)
            | (go_at_call 127; refine (unsigned_any _ _ _ (R.take (j + 1)) k _ (by rw [HRE.out]; exact HN2.out.byt)).mono ?_; rintro e w3 ⟨rfl, rfl⟩))
          go_roundw
          case rel => exact ⟨j + 1, some ⟨g2, 0, none⟩, cp2, _, _, by omega, rfl, rfl, rfl, Lib.hid rfl, Lib.hid rfl, Lib.hid (fun _ => HE3.out), HN2, HFn⟩
          case measure => simp [lenV]; omega
        · have hfa2 : 0 ≤ fa ∧ fa ≤ ((r + j : Nat) : Int) := by omega
          have HB := Lib.hid (Byte_fail wr f g w.heap.size N l (r + j) fa fr t (a + j) hja (by omega) (by omega) hfa2.1 hfa2.2)
          have HFA := Lib.hid hfa2
          clear hja hfa hfa2
          go_wp2_with (go_at_call 97; refine HB.out.mono ?_; rintro e w1 ⟨rfl, hs1, hf1⟩; have HS1 := Lib.hid hs1; have HF1 := Lib.hid hf1; clear hs1 hf1)
          go_ret2
          have hq := HN.out
          have hcu : Blk w1 c 87 (cuC f fr t a) := hq.st.cu.fr HF1.out (fun e => by
            rcases e with e | e
            · exact hq.st.fc e.symm
            · have := hq.cl; omega)
          refine ⟨0, 9, r + j + 1, a, rfl, ⟨HS1.out.fl, hcu, hq.st.h1, hq.st.h2, hq.st.h3⟩, ?_, by omega, by omega, .inl ⟨rfl, rfl, rfl, HFA.out.1, by have := HFA.out.2; omega⟩⟩
          exact (hq.fr_.more (fun i hi => .inl hi)).new_ HF1.out (fun i hi => by
            rcases hi with e | e
            · exact .inl (.inl e)
            · exact .inr (by omega))
      · have HB := Lib.hid (Byte_bad wr f g w.heap.size N l (r + j) fa fr t (a + j) hja (by omega))
        have HU : Hid (Leb.uns R k = Leb.uns (R.take j) k) := Lib.hid (by rw [List.take_of_length_le (by rw [hRl.out]; omega)])
        clear hja
        go_wp2_with (go_at_call 97; refine HB.out.mono ?_; rintro e w1 ⟨rfl, k1, rfl⟩)
        go_ret2
        have hq := HN.out
        have hz := uns_zero (R.take j) k (by rw [← Hy.out]; decide)
        refine ⟨0, 3, r + j, a, rfl, hq.st.drewN _, (hq.fr_.more (fun i hi => .inl hi)).drewN _, by omega, by omega, .inr ?_⟩
        rw [← HRE.out, HU.out, hz.1, hz.2, ← Hy.out]
        exact ⟨rfl, rfl, rfl, fun q => by cases q⟩
    · have HU : Hid (Leb.uns R k = Leb.uns (R.take j) k) := Lib.hid (by
        have := uns_app (R.take j) (R.drop j) k (fun e => hy3 (by rw [Hy.out, e]))
        rw [hRj.out] at this; exact this)
      have hyb : (((y : Nat) : Int) == 3) = false := by
        have := dec_beq y 3
        rw [show ((3 : Nat) : Int) = 3 from rfl] at this
        rw [this]; simp [hy3]
      have h10 : j ≤ 10 := HN.out.j10
      clear hy3
      by_cases hy0 : y = 0
      · subst hy0
        have hj0 : 0 < j := by
          rcases Nat.eq_zero_or_pos j with e | e
          · subst e
            exact absurd Hy.out.symm (uns_nil k)
          · exact e
        have HSZ : Hid ((Leb.uns (R.take j) k).2.1 = j) := Lib.hid (by
          have hjR : j - 1 < R.length := by rw [hRl.out]; omega
          have e := List.take_succ_eq_append_getElem hjR
          rw [show j - 1 + 1 = j by omega] at e
          have h0 := Hy.out.symm
          rw [e] at h0 ⊢
          rw [uns_last _ _ _ (Hl.out hj0) h0, List.length_take]
          omega)
        have a3 : wr.cell? ⟨w.heap.size, 3, none⟩ = some (.int .i64 (a + j : Nat)) := HN.out.ah.cell 3
        have d3 : wr.cell? ⟨c, 3, none⟩ = some (.int .i64 a) := HN.out.st.cu.cell 3
        have z3 := HN.out.st.cu.frozen 3
        go_wp2
        go_ret2
        have hq := HN.out
        have hmv := hq.st.moved (a + j) (by have := hq.st.h1; omega) (by omega)
        have hfin : Fr (FC f c) w (wr.setCell ⟨c, 3, none⟩ (.int .i64 ((a + j : Nat) : Int))) := (hq.fr_.more (fun i hi => .inl hi)).set_ (p := ⟨c, 3, none⟩) (.inr rfl) _
        rw [Int.natCast_add] at hmv hfin
        refine ⟨x, 0, r + j, a + j, rfl, hmv, hfin, by omega, by omega, .inr ?_⟩
        rw [← HRE.out, HU.out, HSZ.out]
        exact ⟨Hx.out, Hy.out, rfl, fun _ => ⟨HFj.out hj0, by omega⟩⟩
      · have hyz : (((y : Nat) : Int) == 0) = false := by
          have := dec_beq y 0
          rw [show ((0 : Nat) : Int) = 0 from rfl] at this
          rw [this]; simp [hy0]
        have HZ := Lib.hid (uns_zero (R.take j) k (by rw [← Hy.out]; exact hy0))
        clear hy0
        go_wp2
        go_ret2
        have hq := HN.out
        refine ⟨x, y, r + j, a, rfl, hq.st, hq.fr_.more (fun i hi => .inl hi), by omega, by omega, .inr ?_⟩
        rw [← HRE.out, HU.out, HZ.out.2]
        exact ⟨Hx.out, Hy.out, rfl, fun q => by rw [q] at hyz; cases hyz⟩

set_option maxHeartbeats 2000000 in
set_option maxRecDepth 100000 in
theorem numq_i64 (w : World) (f g c N : Nat) (l : List Nat) (r : Nat) (fa : Int) (fr t a : Nat) (k : Int) (h : St w f g c N l r fa fr t a) (hr : r < 100000) :
    Calls Tryz.prog 128 #[.pointer (some ⟨c, 0, none⟩), .int .i64 k, .func (.func 129) #[] #[]] w (NumQS f g c N l r fa fr t a k w) := by
  obtain ⟨i0, hi, hz0, hz1, hz2⟩ := info_parts info5
  have c0 : w.cell? ⟨c, 0, none⟩ = some (.pointer (some ⟨f, 0, none⟩)) := h.cu.cell 0
  have c1 : w.cell? ⟨c, 1, none⟩ = some (.int .i64 fr) := h.cu.cell 1
  have c2 : w.cell? ⟨c, 2, none⟩ = some (.int .i64 t) := h.cu.cell 2
  have c3 : w.cell? ⟨c, 3, none⟩ = some (.int .i64 a) := h.cu.cell 3
  obtain ⟨R, hR⟩ : ∃ R, R = (l.drop a).take (t - a) := ⟨_, rfl⟩
  have hRl : Hid (R.length = t - a) := Lib.hid (by rw [hR, List.length_take, List.length_drop]; have := h.fl.len; have := h.h3; omega)
  have H0 : Hid (NRel w f g c N l r fa fr t a w.heap.size 0 none 0 (w.alloc (.cells (cuC f fr t a) 87))) := Lib.hid (by
    have hn := Blk.new w 87 (cuC f fr t a)
    exact ⟨⟨⟨h.fl.blk.alloc _, h.fl.byt.alloc _, h.fl.len, h.fl.lim, h.fl.all⟩, h.cu.alloc _, h.h1, h.h2, h.h3⟩, hn, (Fr.refl _ _).alloc _, by simpa using World.ownsRow_nil _ _ _ _, rfl, by simp, by omega, h.cu.lt, h.fl.blk.lt, h.fl.byt.lt⟩)
  have HRE := Lib.hid hR
  have hat := h.h2
  have htN : t ≤ 65536 := Nat.le_trans h.h3 h.fl.lim
  have hNN : Hid (l.length = N ∧ t ≤ N) := Lib.hid ⟨h.fl.len, h.h3⟩
  clear h hR
  go_enter Tryz.func128, Tryz.ntmps128
  go_wp2_with (go_at_call 129; refine (signed_any none 0 0 [] k _ (byt_nil _)).mono ?_; rintro e w' ⟨rfl, rfl⟩)
  go_loopw [9, 10, 12] (fun v9 v10 v12 wr => ∃ (j : Nat) (A : Option Addr) (cp : Nat) (x : Int) (y : Nat), j ≤ t - a ∧ v9 = .slice A j cp ∧ v10 = .int .i64 x ∧ v12 = .int .i64 y ∧ Hid (x = (Leb.sgn (R.take j) k).1) ∧ Hid (y = (Leb.sgn (R.take j) k).2.2) ∧ Hid (0 < j → (Leb.sgn (R.take (j - 1)) k).2.2 = 3) ∧ Hid (NRel w f g c N l r fa fr t a w.heap.size j A cp wr) ∧ Hid (0 < j → fa < 0 ∨ ((r + j : Nat) : Int) ≤ fa)) (fun v9 _ _ _ => t - a - lenV v9)
  case atStart => exact ⟨0, none, 0, _, _, by omega, rfl, rfl, rfl, Lib.hid rfl, Lib.hid rfl, Lib.hid (fun q => by omega), H0, Lib.hid (fun q => by omega)⟩
  case round =>
    obtain ⟨j, A, cp, x, y, hj, rfl, rfl, rfl, Hx, Hy, Hl, HN, HFj⟩ := hrel
    clear c0 c1 c2 c3
    have hRj : Hid (R.take j ++ R.drop j = R) := Lib.hid (List.take_append_drop j R)
    by_cases hy3 : y = 3
    · subst hy3
      have hj9 : j ≤ 9 := by
        have q := sgn_len _ _ Hy.out.symm
        rw [List.length_take, hRl.out] at q
        omega
      have hja := HN.out.ahead hj
      by_cases hjt : j < t - a
      · by_cases hfa : fa < 0 ∨ (0 ≤ fa ∧ ((r + j : Nat) : Int) < fa)
        · have HB := Lib.hid (Byte_ok wr f g w.heap.size N l (r + j) fa fr t (a + j) hja (by omega) (by omega) hfa)
          have HFn : Hid (0 < j + 1 → fa < 0 ∨ ((r + (j + 1) : Nat) : Int) ≤ fa) := Lib.hid (fun _ => by omega)
          clear hja hfa
          obtain ⟨z, hz⟩ : ∃ z, z = l.getD (a + j) 0 := ⟨_, rfl⟩
          rw [← hz] at HB
          have HZ := Lib.hid hz
          clear hz
          have HE3 : Hid ((Leb.sgn (R.take (j + 1 - 1)) k).2.2 = 3) := Lib.hid Hy.out.symm
          go_wp2_with (first
            | (go_at_call 97; refine HB.out.mono ?_; rintro e w1 ⟨rfl, hs1, hf1⟩; have HS1 := Lib.hid hs1; have HF1 := Lib.hid hf1; have HO1 : Hid (w1.ownsRow (w.heap.size + 1) 5 1 (.slice A j cp) j ((((l.drop a).take (t - a)).take j).map U8)) := Lib.hid (HN.out.own_after hf1); have hB1 : Hid (w.heap.size + 1 ≤ w1.heap.size) := Lib.hid (Nat.le_trans HN.out.hs hf1.size); clear hs1 hf1)
            | (at_builtin
               refine wpList_append_own _ rfl (.tmp 37) (.tmp 39) 27 rfl (w.heap.size + 1) 5 i0 _ 1 1 Tryz.underlying27 hi hz0 hz1 hz2 rfl (by decide) (.slice A j cp) j _ rfl (HO1.out.alloc _) ⟨w1.heap.size, 0, none⟩ 1 1 [U8 z] rfl rfl (cell_new _ _ _) ?d1 ?d2 ?d3 ?d4 ?_
               case d1 => intro u hu; simp at hu; subst hu; rfl
               case d2 => unfold maxLen; omega
               case d3 => omega
               case d4 => have := hB1.out; simp; omega
               intro v2 w2 hown2 hg2 _
               obtain ⟨g2, cp2, hv2⟩ : ∃ g2 cp2, v2 = .slice (some ⟨g2, 0, none⟩) (j + 1) cp2 := own_form hown2 (by omega)
               rw [hv2] at hown2 ⊢
               have HN2 : Hid (NRel w f g c N l r fa fr t a w.heap.size (j + 1) (some ⟨g2, 0, none⟩) cp2 w2) := Lib.hid (HN.out.next hjt hj9 HS1.out HF1.out (by rw [← HZ.out]; exact hown2) hg2)
               clear hown2 hg2 hv2)
            | (go_at_call 129; refine (signed_any _ _ _ (R.take (j + 1)) k _ (by rw [HRE.out]; exact HN2.out.byt)).mono ?_; rintro e w3 ⟨rfl, rfl⟩))
          go_roundw
          case rel => exact ⟨j + 1, some ⟨g2, 0, none⟩, cp2, _, _, by omega, rfl, rfl, rfl, Lib.hid rfl, Lib.hid rfl, Lib.hid (fun _ => HE3.out), HN2, HFn⟩
          case measure => simp [lenV]; omega
        · have hfa2 : 0 ≤ fa ∧ fa ≤ ((r + j : Nat) : Int) := by omega
          have HB := Lib.hid (Byte_fail wr f g w.heap.size N l (r + j) fa fr t (a + j) hja (by omega) (by omega) hfa2.1 hfa2.2)
          have HFA := Lib.hid hfa2
          clear hja hfa hfa2
          go_wp2_with (go_at_call 97; refine HB.out.mono ?_; rintro e w1 ⟨rfl, hs1, hf1⟩; have HS1 := Lib.hid hs1; have HF1 := Lib.hid hf1; clear hs1 hf1)
          go_ret2
          have hq := HN.out
          have hcu : Blk w1 c 87 (cuC f fr t a) := hq.st.cu.fr HF1.out (fun e => by
            rcases e with e | e
            · exact hq.st.fc e.symm
            · have := hq.cl; omega)
          refine ⟨0, 9, r + j + 1, a, rfl, ⟨HS1.out.fl, hcu, hq.st.h1, hq.st.h2, hq.st.h3⟩, ?_, by omega, by omega, .inl ⟨rfl, rfl, rfl, HFA.out.1, by have := HFA.out.2; omega⟩⟩
          exact (hq.fr_.more (fun i hi => .inl hi)).new_ HF1.out (fun i hi => by
            rcases hi with e | e
            · exact .inl (.inl e)
            · exact .inr (by omega))
      · have HB := Lib.hid (Byte_bad wr f g w.heap.size N l (r + j) fa fr t (a + j) hja (by omega))
        have HU : Hid (Leb.sgn R k = Leb.sgn (R.take j) k) := Lib.hid (by rw [List.take_of_length_le (by rw [hRl.out]; omega)])
        clear hja
        go_wp2_with (go_at_call 97; refine HB.out.mono ?_; rintro e w1 ⟨rfl, k1, rfl⟩)
        go_ret2
        have hq := HN.out
        have hz := sgn_zero (R.take j) k (by rw [← Hy.out]; decide)
        refine ⟨0, 3, r + j, a, rfl, hq.st.drewN _, (hq.fr_.more (fun i hi => .inl hi)).drewN _, by omega, by omega, .inr ?_⟩
        rw [← HRE.out, HU.out, hz.1, hz.2, ← Hy.out]
        exact ⟨rfl, rfl, rfl, fun q => by cases q⟩
    · have HU : Hid (Leb.sgn R k = Leb.sgn (R.take j) k) := Lib.hid (by
        have := sgn_app (R.take j) (R.drop j) k (fun e => hy3 (by rw [Hy.out, e]))
        rw [hRj.out] at this; exact this)
      have hyb : (((y : Nat) : Int) == 3) = false := by
        have := dec_beq y 3
        rw [show ((3 : Nat) : Int) = 3 from rfl] at this
        rw [this]; simp [hy3]
      have h10 : j ≤ 10 := HN.out.j10
      clear hy3
      by_cases hy0 : y = 0
      · subst hy0
        have hj0 : 0 < j := by
          rcases Nat.eq_zero_or_pos j with e | e
          · subst e
            exact absurd Hy.out.symm (sgn_nil k)
          · exact e
        have HSZ : Hid ((Leb.sgn (R.take j) k).2.1 = j) := Lib.hid (by
          have hjR : j - 1 < R.length := by rw [hRl.out]; omega
          have e := List.take_succ_eq_append_getElem hjR
          rw [show j - 1 + 1 = j by omega] at e
          have h0 := Hy.out.symm
          rw [e] at h0 ⊢
          rw [sgn_last _ _ _ (Hl.out hj0) h0, List.length_take]
          omega)
        have a3 : wr.cell? ⟨w.heap.size, 3, none⟩ = some (.int .i64 (a + j : Nat)) := HN.out.ah.cell 3
        have d3 : wr.cell? ⟨c, 3, none⟩ = some (.int .i64 a) := HN.out.st.cu.cell 3
        have z3 := HN.out.st.cu.frozen 3
        go_wp2
        go_ret2
        have hq := HN.out
        have hmv := hq.st.moved (a + j) (by have := hq.st.h1; omega) (by omega)
        have hfin : Fr (FC f c) w (wr.setCell ⟨c, 3, none⟩ (.int .i64 ((a + j : Nat) : Int))) := (hq.fr_.more (fun i hi => .inl hi)).set_ (p := ⟨c, 3, none⟩) (.inr rfl) _
        rw [Int.natCast_add] at hmv hfin
        refine ⟨x, 0, r + j, a + j, rfl, hmv, hfin, by omega, by omega, .inr ?_⟩
        rw [← HRE.out, HU.out, HSZ.out]
        exact ⟨Hx.out, Hy.out, rfl, fun _ => ⟨HFj.out hj0, by omega⟩⟩
      · have hyz : (((y : Nat) : Int) == 0) = false := by
          have := dec_beq y 0
          rw [show ((0 : Nat) : Int) = 0 from rfl] at this
          rw [this]; simp [hy0]
        have HZ := Lib.hid (sgn_zero (R.take j) k (by rw [← Hy.out]; exact hy0))
        clear hy0
        go_wp2
        go_ret2
        have hq := HN.out
        refine ⟨x, y, r + j, a, rfl, hq.st, hq.fr_.more (fun i hi => .inl hi), by omega, by omega, .inr ?_⟩
        rw [← HRE.out, HU.out, HZ.out.2]
        exact ⟨Hx.out, Hy.out, rfl, fun q => by rw [q] at hyz; cases hyz⟩
set_option maxHeartbeats 400000 in
set_option maxRecDepth 100000 in
theorem qUnsigned (w : World) (f g c N : Nat) (l : List Nat) (r : Nat) (fa : Int) (fr t a : Nat) (k : Int) (h : St w f g c N l r fa fr t a) (hr : r < 100000) :
    Calls Tryz.prog 102 #[.pointer (some ⟨c, 0, none⟩), .int .i64 k] w (NumQ f g c N l r fa fr t a k w) := by
  have HN := Lib.hid (numq_u64 w f g c N l r fa fr t a k h hr)
  clear h
  go_enter Tryz.func102, Tryz.ntmps102
  go_wp2_with (go_at_call 126; refine HN.out.mono ?_; rintro e w' ⟨x, y, r', a', rfl, h1, h2, h3, h4, h5⟩; have H1 := Lib.hid h1; have H2 := Lib.hid h2; have H5 := Lib.hid h5; clear h1 h2 h5)
  go_ret2
  exact ⟨x, y, r', a', rfl, H1.out, H2.out, h3, h4, H5.out⟩
set_option maxHeartbeats 400000 in
set_option maxRecDepth 100000 in
theorem qSigned (w : World) (f g c N : Nat) (l : List Nat) (r : Nat) (fa : Int) (fr t a : Nat) (k : Int) (h : St w f g c N l r fa fr t a) (hr : r < 100000) :
    Calls Tryz.prog 107 #[.pointer (some ⟨c, 0, none⟩), .int .i64 k] w (NumQS f g c N l r fa fr t a k w) := by
  have HN := Lib.hid (numq_i64 w f g c N l r fa fr t a k h hr)
  clear h
  go_enter Tryz.func107, Tryz.ntmps107
  go_wp2_with (go_at_call 128; refine HN.out.mono ?_; rintro e w' ⟨x, y, r', a', rfl, h1, h2, h3, h4, h5⟩; have H1 := Lib.hid h1; have H2 := Lib.hid h2; have H5 := Lib.hid h5; clear h1 h2 h5)
  go_ret2
  exact ⟨x, y, r', a', rfl, H1.out, H2.out, h3, h4, H5.out⟩
end Go.Proofs.YtggfaalodojjkaaGreatDoor
namespace Go.Proofs.YtggfaalodojjkaaGreatDoor
open Go.RowKit
set_option linter.unusedVariables false
set_option linter.unusedSimpArgs false
/-- a reader: its cursor's state beside its error -/
structure RSt (w : World) (f g c N : Nat) (l : List Nat) (r : Nat) (fa : Int) (fr t a R er : Nat) : Prop where
  st : St w f g c N l r fa fr t a
  rd : Blk w R 89 #[.pointer (some ⟨c, 0, none⟩), .int .i64 er]
def rest (l : List Nat) (t a : Nat) : List Nat := (l.drop a).take (t - a)
/-- what a reader's steps come to: the value, where it stands, the error -/
def byF (l : List Nat) (t a er : Nat) : Nat × Nat × Nat := if er = 0 then (if a < t then (l.getD a 0, a + 1, 0) else (0, a, 3)) else (0, a, er)
def nuF (l : List Nat) (t : Nat) (k : Int) (a er : Nat) : Nat × Nat × Nat := if er = 0 then ((Leb.uns (rest l t a) k).1, a + (Leb.uns (rest l t a) k).2.1, (Leb.uns (rest l t a) k).2.2) else (0, a, er)
def sgF (l : List Nat) (t : Nat) (k : Int) (a er : Nat) : Int × Nat × Nat := if er = 0 then ((Leb.sgn (rest l t a) k).1, a + (Leb.sgn (rest l t a) k).2.1, (Leb.sgn (rest l t a) k).2.2) else (0, a, er)
def FR (f c R : Nat) (q : Nat) : Prop := q = f ∨ q = c ∨ q = R
/-- what is known behind a step that read: it failed, or it came to what it comes to -/
def Came {α : Type} (fa : Int) (r a r' : Nat) (x : α) (a' er' : Nat) (F : α × Nat × Nat) : Prop :=
  (er' = 9 ∧ 0 ≤ fa ∧ fa < r') ∨ ((x, a', er') = F ∧ (er' = 0 → (fa < 0 ∨ (r' : Int) ≤ fa) ∧ r' + a = r + a'))
section
variable {w w' : World} {f g c N : Nat} {l : List Nat} {r : Nat} {fa : Int} {fr t a R er : Nat}
theorem RSt.drewN (h : RSt w f g c N l r fa fr t a R er) (k : Nat) : RSt (w.drewN k) f g c N l r fa fr t a R er := ⟨h.st.drewN k, h.rd.drewN k⟩
theorem RSt.cR (h : RSt w f g c N l r fa fr t a R er) : c ≠ R := h.st.cu.ne_ h.rd (by decide)
theorem RSt.fR (h : RSt w f g c N l r fa fr t a R er) : f ≠ R := h.st.fl.blk.ne_ h.rd (by decide)
theorem RSt.gR (h : RSt w f g c N l r fa fr t a R er) : g ≠ R := h.st.fl.byt.ne_ h.rd (by decide)
theorem RSt.fr_ {S : Nat → Prop} (h : RSt w f g c N l r fa fr t a R er) (hf : Fr S w w') (h1 : ¬ S f) (h2 : ¬ S g) (h3 : ¬ S c) (h4 : ¬ S R) : RSt w' f g c N l r fa fr t a R er := ⟨h.st.fr_ hf h1 h2 h3, h.rd.fr hf h4⟩
theorem RSt.new (h : RSt w f g c N l r fa fr t a R er) (hf : Fr (fun _ => False) w w') : RSt w' f g c N l r fa fr t a R er := h.fr_ hf (fun q => q) (fun q => q) (fun q => q) (fun q => q)
theorem RSt.alloc (h : RSt w f g c N l r fa fr t a R er) (o : Obj) : RSt (w.alloc o) f g c N l r fa fr t a R er := h.new ((Fr.refl _ w).alloc o)
theorem RSt.err (h : RSt w f g c N l r fa fr t a R er) (e : Nat) : RSt (w.setCell ⟨R, 1, none⟩ (.int .i64 e)) f g c N l r fa fr t a R e := by
  have hf : Fr (fun q => q = R) w (w.setCell ⟨R, 1, none⟩ (.int .i64 e)) := (Fr.refl (fun q => q = R) w).set_ (p := ⟨R, 1, none⟩) rfl _
  exact ⟨h.st.fr_ hf h.fR h.gR h.cR, h.rd.set_ 1 _⟩
set_option maxRecDepth 100000 in
theorem meet_ok (h : RSt w f g c N l r fa fr t a R er) (e : Nat) : Calls Tryz.prog 99 #[.pointer (some ⟨R, 0, none⟩), .int .i64 e] w fun x w' => x = .returned (.tuple #[]) ∧ RSt w' f g c N l r fa fr t a R (if er = 0 then e else er) ∧ Fr (fun q => q = R) w w' := by
  have c1 : w.cell? ⟨R, 1, none⟩ = some (.int .i64 er) := h.rd.cell 1
  have z1 : w.frozen? ⟨R, 1, none⟩ = false := h.rd.frozen 1
  have HE := Lib.hid (h.err e)
  have H := Lib.hid h
  clear h
  by_cases h0 : er = 0
  · subst h0
    rw [if_pos rfl]
    go_enter Tryz.func99, Tryz.ntmps99
    go_wp2
    go_end0
    exact ⟨rfl, HE.out, (Fr.refl (fun q => q = R) w).set_ (p := ⟨R, 1, none⟩) rfl _⟩
  · rw [if_neg h0]
    have hq : (((er : Nat) : Int) == 0) = false := by rw [beq_eq_false_iff_ne]; omega
    go_enter Tryz.func99, Tryz.ntmps99
    go_wp2
    go_end0
    exact ⟨rfl, H.out, Fr.refl _ _⟩
/-- a byte, by next -/
def ByP (f g c N : Nat) (l : List Nat) (r : Nat) (fa : Int) (fr t a R er : Nat) (w : World) (e : Ending) (w' : World) : Prop :=
  ∃ x a' er' r' : Nat, e = .returned (.int .u8 x) ∧ x < 256 ∧ RSt w' f g c N l r' fa fr t a' R er' ∧ Fr (FR f c R) w w' ∧ r ≤ r' ∧ r' ≤ r + 1 ∧ Came fa r a r' x a' er' (byF l t a er) ∧ (er' = 9 → 0 ≤ fa ∧ fa < r' ∨ er = 9)
end
end Go.Proofs.YtggfaalodojjkaaGreatDoor
