/-
  Between two acts on two memories of one pager: what the program's and the document's hold.
-/
import Derived.Test.YtlnffcledpccjaaWh
import Derived.Test.YtlnffcledpccjaaWt
import Derived.BigQuiet
import Derived.OwnWalk
import Derived.WalkKit
import Derived.ProofKit
import Derived.OpenShut
import Derived.ShutString
import Derived.ChangeOld
import Derived.Below
namespace Go.Proofs.Ytlnffcledpccjaa
set_option linter.unusedVariables false
set_option linter.unusedSimpArgs false
open Go.RowKit
def zC (pz cz pn pc : Nat → Nat) (PA : Nat → Option Addr) : Array Value := #[.int .i64 (pz 0), .int .i64 (cz 0), .slice (PA 0) (pn 0) (pc 0), .int .i64 (pz 1), .int .i64 (cz 1), .slice (PA 1) (pn 1) (pc 1)]
def lC (Mb : Nat → Nat) : Array Value := #[.pointer (some ⟨Mb 0, 0, none⟩), .pointer (some ⟨Mb 1, 0, none⟩)]
/-- the blocks in which what was written may lie -/
def SK (X : Nat → Prop) (Z : Nat) (Mb : Nat → Nat) (q : Nat) : Prop := X q ∧ q ≠ Z ∧ q ≠ Mb 0 ∧ q ≠ Mb 1
theorem lt2 {k : Nat} (h : k < 2) : k = 0 ∨ k = 1 := by omega
def upd1 {α : Type} (f : Nat → α) (k : Nat) (x : α) (i : Nat) : α := if i = k then x else f i
structure SI (w0 : World) (A : Pa) (bb rm gm nf kk oo : Nat) (C : Nat × Nat → List Nat) (X : Nat → Prop) (L Z : Nat) (Mb pg cp pz cz pn pc : Nat → Nat) (PA : Nat → Option Addr) (Ps : Nat → List (Nat × List Nat)) (bx : Nat) (ac : Array Value) (wr : World) : Prop where
  s1 : S1 w0 A bb rm gm nf 64 4096 C kk oo X wr
  lb : Blk wr L 49 (lC Mb)
  zb : Blk wr Z 53 (zC pz cz pn pc PA)
  mm : ∀ k, k < 2 → Blk wr (Mb k) 117 (mmC A.p k (pg k) 5 (cp k) (decide (k = 1)))
  lX : X L
  zX : X Z
  mX : ∀ k, k < 2 → X (Mb k)
  ne : Mb 0 ≠ Mb 1
  pb : ∀ k, k < 2 → pg k ≤ 5 ∧ cp k ≤ 5
  ps : ∀ k, k < 2 → Puts wr (PA k) (pn k) (pc k) (Ps k) ∧ PutsIn (SK X Z Mb) wr (PA k) (pn k) ∧ (pn k = 0 → PA k = none ∧ pc k = 0)
  bX : 0 < ac.size → X bx
  ba : 0 < ac.size → Blk wr bx 58 ac
section
variable {w0 wr wr' : World} {A : Pa} {bb rm gm nf kk oo kk' oo' : Nat} {C C' : Nat × Nat → List Nat} {X X' : Nat → Prop} {L Z : Nat} {Mb pg cp pz cz pn pc : Nat → Nat} {PA : Nat → Option Addr} {Ps : Nat → List (Nat × List Nat)} {bx : Nat} {ac : Array Value}
theorem SK.more {q : Nat} (h : SK X Z Mb q) (hX : ∀ q, X q → X' q) : SK X' Z Mb q := ⟨hX _ h.1, h.2⟩
theorem SI.zl (h : SI w0 A bb rm gm nf kk oo C X L Z Mb pg cp pz cz pn pc PA Ps bx ac wr) : Z ≠ L ∧ (∀ k, k < 2 → Mb k ≠ L ∧ Mb k ≠ Z) ∧ (0 < ac.size → bx ≠ L ∧ bx ≠ Z ∧ ∀ k, k < 2 → bx ≠ Mb k) :=
  ⟨h.zb.ne_ h.lb (by decide), fun k hk => ⟨(h.mm k hk).ne_ h.lb (by decide), (h.mm k hk).ne_ h.zb (by decide)⟩, fun h0 => ⟨(h.ba h0).ne_ h.lb (by decide), (h.ba h0).ne_ h.zb (by decide), fun k hk => (h.ba h0).ne_ (h.mm k hk) (by decide)⟩⟩
/-- what only makes memory -/
theorem SI.quiet (h : SI w0 A bb rm gm nf kk oo C X L Z Mb pg cp pz cz pn pc PA Ps bx ac wr) (hf : Fr (fun _ => False) wr wr') : SI w0 A bb rm gm nf kk oo C (fun q => X q ∨ (wr.heap.size ≤ q ∧ q < wr'.heap.size)) L Z Mb pg cp pz cz pn pc PA Ps bx ac wr' :=
  ⟨h.s1.ext hf (fun _ q => q.elim) (fun q hq => hq), h.lb.fr hf (fun q => q), h.zb.fr hf (fun q => q), fun k hk => (h.mm k hk).fr hf (fun q => q), .inl h.lX, .inl h.zX, fun k hk => .inl (h.mX k hk), h.ne, h.pb, fun k hk => by
    obtain ⟨h1, h2, h3⟩ := h.ps k hk
    obtain ⟨g1, g2⟩ := h1.frK h2 hf (fun _ _ q => q)
    exact ⟨g1, g2.more (fun q hq => hq.more (fun _ => .inl)), h3⟩, fun h0 => .inl (h.bX h0), fun h0 => (h.ba h0).fr hf (fun q => q)⟩
theorem SI.drewN (h : SI w0 A bb rm gm nf kk oo C X L Z Mb pg cp pz cz pn pc PA Ps bx ac wr) (n : Nat) : SI w0 A bb rm gm nf kk oo C X L Z Mb pg cp pz cz pn pc PA Ps bx ac (wr.drewN n) :=
  ⟨h.s1.drewN n, h.lb, h.zb, h.mm, h.lX, h.zX, h.mX, h.ne, h.pb, fun k hk => by
    obtain ⟨h1, h2, h3⟩ := h.ps k hk
    obtain ⟨g1, g2⟩ := h1.frK h2 ((Fr.refl (fun _ => False) wr).drewN n) (fun _ _ q => q)
    exact ⟨g1, g2, h3⟩, h.bX, h.ba⟩
theorem SI.drew (h : SI w0 A bb rm gm nf kk oo C X L Z Mb pg cp pz cz pn pc PA Ps bx ac wr) : SI w0 A bb rm gm nf kk oo C X L Z Mb pg cp pz cz pn pc PA Ps bx ac wr.drew := h.drewN 1
/-- what the pager does -/
theorem SI.pag (h : SI w0 A bb rm gm nf kk oo C X L Z Mb pg cp pz cz pn pc PA Ps bx ac wr) (hs : S1 w0 A bb rm gm nf 64 4096 C' kk' oo' X' wr') (hk : KX w0 X wr wr') (hX : ∀ q, X q → X' q) : SI w0 A bb rm gm nf kk' oo' C' X' L Z Mb pg cp pz cz pn pc PA Ps bx ac wr' := by
  have hf := KX.fr hk
  refine ⟨hs, h.lb.fr hf (fun q => q.2 h.lX), h.zb.fr hf (fun q => q.2 h.zX), fun k hk => (h.mm k hk).fr hf (fun q => q.2 (h.mX k hk)), hX _ h.lX, hX _ h.zX, fun k hk => hX _ (h.mX k hk), h.ne, h.pb, fun k hk => ?_, fun h0 => hX _ (h.bX h0), fun h0 => (h.ba h0).fr hf (fun q => q.2 (h.bX h0))⟩
  obtain ⟨h1, h2, h3⟩ := h.ps k hk
  obtain ⟨g1, g2⟩ := h1.frK h2 hf (fun q hq hs => hs.2 hq.1)
  exact ⟨g1, g2.more (fun q hq => hq.more hX), h3⟩
/-- what changes a memory -/
theorem SI.mem (h : SI w0 A bb rm gm nf kk oo C X L Z Mb pg cp pz cz pn pc PA Ps bx ac wr) {k p c : Nat} (hk : k < 2) (hf : Fr (fun q => q = Mb k) wr wr') (hb : Blk wr' (Mb k) 117 (mmC A.p k p 5 c (decide (k = 1)))) (hp : p ≤ 5) (hc : c ≤ 5) : SI w0 A bb rm gm nf kk oo C X L Z Mb (upd1 pg k p) (upd1 cp k c) pz cz pn pc PA Ps bx ac wr' := by
  obtain ⟨z1, z2, z3⟩ := h.zl
  refine ⟨h.s1.ext hf (fun q hq => .inl (hq ▸ h.mX k hk)) (fun q hq => .inl hq), h.lb.fr hf (fun q => (z2 k hk).1 q.symm), h.zb.fr hf (fun q => (z2 k hk).2 q.symm), fun i hi => ?_, h.lX, h.zX, h.mX, h.ne, fun i hi => ?_, fun i hi => ?_, h.bX, fun h0 => (h.ba h0).fr hf (fun q => (z3 h0).2.2 k hk q)⟩
  · unfold upd1
    split
    · subst i; exact hb
    · refine (h.mm i hi).fr hf (fun q => ?_)
      have := h.ne
      rcases lt2 hk with rfl | rfl <;> rcases lt2 hi with rfl | rfl <;> first | contradiction | exact this q | exact this q.symm
  · unfold upd1
    have := h.pb i hi
    split <;> omega
  · obtain ⟨h1, h2, h3⟩ := h.ps i hi
    obtain ⟨g1, g2⟩ := h1.frK h2 hf (fun q hq hs => by
      rcases lt2 hk with rfl | rfl
      · exact hq.2.2.1 hs
      · exact hq.2.2.2 hs)
    exact ⟨g1, g2, h3⟩
/-- what changes the document's -/
theorem SI.put {pz' cz' pn' pc' : Nat → Nat} {PA' : Nat → Option Addr} {Ps' : Nat → List (Nat × List Nat)} (h : SI w0 A bb rm gm nf kk oo C X L Z Mb pg cp pz cz pn pc PA Ps bx ac wr) (hf : Fr (fun q => q = Z) wr wr') (hb : Blk wr' Z 53 (zC pz' cz' pn' pc' PA'))
    (hp : ∀ k, k < 2 → Puts wr (PA' k) (pn' k) (pc' k) (Ps' k) ∧ PutsIn (SK X Z Mb) wr (PA' k) (pn' k) ∧ (pn' k = 0 → PA' k = none ∧ pc' k = 0)) : SI w0 A bb rm gm nf kk oo C X L Z Mb pg cp pz' cz' pn' pc' PA' Ps' bx ac wr' := by
  obtain ⟨z1, z2, z3⟩ := h.zl
  refine ⟨h.s1.ext hf (fun q hq => .inl (hq ▸ h.zX)) (fun q hq => .inl hq), h.lb.fr hf (fun q => z1 q.symm), hb, fun i hi => (h.mm i hi).fr hf (fun q => (z2 i hi).2 q), h.lX, h.zX, h.mX, h.ne, h.pb, fun i hi => ?_, h.bX, fun h0 => (h.ba h0).fr hf (fun q => (z3 h0).2.1 q)⟩
  obtain ⟨h1, h2, h3⟩ := hp i hi
  obtain ⟨g1, g2⟩ := h1.frK h2 hf (fun q hq hs => hq.2.1 hs)
  exact ⟨g1, g2, h3⟩
theorem SI.con (h : SI w0 A bb rm gm nf kk oo C X L Z Mb pg cp pz cz pn pc PA Ps bx ac wr) (e : C = C') (hk : kk ≤ kk') (ho : oo ≤ oo') : SI w0 A bb rm gm nf kk' oo' C' X L Z Mb pg cp pz cz pn pc PA Ps bx ac wr :=
  ⟨(h.s1.more hk ho).con e, h.lb, h.zb, h.mm, h.lX, h.zX, h.mX, h.ne, h.pb, h.ps, h.bX, h.ba⟩
/-- an act laid -/
theorem SI.box (h : SI w0 A bb rm gm nf kk oo C X L Z Mb pg cp pz cz pn pc PA Ps bx ac wr) (ac' : Array Value) : SI w0 A bb rm gm nf kk oo C (fun q => X q ∨ (wr.heap.size ≤ q ∧ q < (wr.alloc (.cells ac' 58)).heap.size)) L Z Mb pg cp pz cz pn pc PA Ps wr.heap.size ac' (wr.alloc (.cells ac' 58)) := by
  have h1 := h.quiet ((Fr.refl (fun _ => False) wr).alloc (.cells ac' 58))
  exact ⟨h1.s1, h1.lb, h1.zb, h1.mm, h1.lX, h1.zX, h1.mX, h1.ne, h1.pb, h1.ps, fun _ => .inr ⟨Nat.le_refl _, by rw [World.size_alloc]; omega⟩, fun _ => Blk.new _ _ _⟩
theorem SI.unbox (h : SI w0 A bb rm gm nf kk oo C X L Z Mb pg cp pz cz pn pc PA Ps bx ac wr) : SI w0 A bb rm gm nf kk oo C X L Z Mb pg cp pz cz pn pc PA Ps 0 #[] wr :=
  ⟨h.s1, h.lb, h.zb, h.mm, h.lX, h.zX, h.mX, h.ne, h.pb, h.ps, fun q => absurd q (by simp), fun q => absurd q (by simp)⟩
theorem SI.lcell (h : SI w0 A bb rm gm nf kk oo C X L Z Mb pg cp pz cz pn pc PA Ps bx ac wr) {k : Nat} (hk : k < 2) : wr.cell? ⟨L, k, none⟩ = some (.pointer (some ⟨Mb k, 0, none⟩)) := by
  rw [h.lb.cell k]
  rcases lt2 hk with rfl | rfl <;> rfl
theorem SI.zcell (h : SI w0 A bb rm gm nf kk oo C X L Z Mb pg cp pz cz pn pc PA Ps bx ac wr) {k : Nat} (hk : k < 2) : wr.cell? ⟨Z, k * 3, none⟩ = some (.int .i64 (pz k)) ∧ wr.cell? ⟨Z, k * 3 + 1, none⟩ = some (.int .i64 (cz k)) ∧ wr.cell? ⟨Z, k * 3 + 2, none⟩ = some (.slice (PA k) (pn k) (pc k)) := by
  rw [h.zb.cell, h.zb.cell, h.zb.cell]
  rcases lt2 hk with rfl | rfl <;> exact ⟨rfl, rfl, rfl⟩
theorem SI.bcell (h : SI w0 A bb rm gm nf kk oo C X L Z Mb pg cp pz cz pn pc PA Ps bx ac wr) (h0 : 0 < ac.size) (i : Nat) : wr.cell? ⟨bx, i, none⟩ = ac[i]? := (h.ba h0).cell i
/-- one of the document's memories stored anew -/
theorem zC_set {w : World} {Z k : Nat} {pz cz pn pc : Nat → Nat} {PA : Nat → Option Addr} (h : Blk w Z 53 (zC pz cz pn pc PA)) (hk : k < 2) (p c n m : Nat) (B : Option Addr) :
    w.frozen? ⟨Z, k * 3, none⟩ = false ∧ w.cell? ⟨Z, k * 3, none⟩ = some (.int .i64 (pz k)) ∧
    (w.setCell ⟨Z, k * 3, none⟩ (.int .i64 p)).frozen? ⟨Z, k * 3 + 1, none⟩ = false ∧ (w.setCell ⟨Z, k * 3, none⟩ (.int .i64 p)).cell? ⟨Z, k * 3 + 1, none⟩ = some (.int .i64 (cz k)) ∧
    ((w.setCell ⟨Z, k * 3, none⟩ (.int .i64 p)).setCell ⟨Z, k * 3 + 1, none⟩ (.int .i64 c)).frozen? ⟨Z, k * 3 + 2, none⟩ = false ∧ ((w.setCell ⟨Z, k * 3, none⟩ (.int .i64 p)).setCell ⟨Z, k * 3 + 1, none⟩ (.int .i64 c)).cell? ⟨Z, k * 3 + 2, none⟩ = some (.slice (PA k) (pn k) (pc k)) ∧
    Blk (((w.setCell ⟨Z, k * 3, none⟩ (.int .i64 p)).setCell ⟨Z, k * 3 + 1, none⟩ (.int .i64 c)).setCell ⟨Z, k * 3 + 2, none⟩ (.slice B n m)) Z 53 (zC (upd1 pz k p) (upd1 cz k c) (upd1 pn k n) (upd1 pc k m) (upd1 PA k B)) ∧
    Fr (fun q => q = Z) w (((w.setCell ⟨Z, k * 3, none⟩ (.int .i64 p)).setCell ⟨Z, k * 3 + 1, none⟩ (.int .i64 c)).setCell ⟨Z, k * 3 + 2, none⟩ (.slice B n m)) := by
  have b1 := h.set_ (k * 3) (.int .i64 p)
  have b2 := b1.set_ (k * 3 + 1) (.int .i64 c)
  have b3 := b2.set_ (k * 3 + 2) (.slice B n m)
  have f1 : Fr (fun q => q = Z) w (w.setCell ⟨Z, k * 3, none⟩ (.int .i64 p)) := (Fr.refl (fun q => q = Z) _).set_ (p := ⟨Z, k * 3, none⟩) rfl _
  have f2 := f1.set_ (p := ⟨Z, k * 3 + 1, none⟩) rfl (.int .i64 c)
  have f3 := f2.set_ (p := ⟨Z, k * 3 + 2, none⟩) rfl (.slice B n m)
  refine ⟨h.frozen _, ?_, b1.frozen _, ?_, b2.frozen _, ?_, ?_, f3⟩
  · rw [h.cell]; rcases lt2 hk with rfl | rfl <;> rfl
  · rw [b1.cell]; rcases lt2 hk with rfl | rfl <;> rfl
  · rw [b2.cell]; rcases lt2 hk with rfl | rfl <;> rfl
  · rcases lt2 hk with rfl | rfl <;> exact b3
end
/-- while the two memories are made -/
structure IniR (w1 : World) (A : Pa) (bb rm gm nf : Nat) (L Z : Nat) (pp : Nat → Nat) (j : Nat) (Mb : Nat → Nat) (wr : World) : Prop where
  s1 : S1 w1 A bb rm gm nf 64 4096 (fun _ => zs 64) 0 0 (fun q => q = L ∨ q = Z ∨ ∃ i, i < j ∧ q = Mb i) wr
  lb : Blk wr L 49 #[if 0 < j then .pointer (some ⟨Mb 0, 0, none⟩) else .pointer none, if 1 < j then .pointer (some ⟨Mb 1, 0, none⟩) else .pointer none]
  zb : Blk wr Z 53 (zC (fun i => if i < j then pp i else 0) (fun i => if i < j then 5 else 0) (fun _ => 0) (fun _ => 0) (fun _ => none))
  mm : ∀ i, i < j → Blk wr (Mb i) 117 (mmC A.p i (pp i) 5 5 (decide (i = 1)))
  ne : 1 < j → Mb 0 ≠ Mb 1
theorem IniR.step {w1 : World} {A : Pa} {bb rm gm nf : Nat} {L Z : Nat} {pp : Nat → Nat} {j : Nat} {Mb : Nat → Nat} {wr : World} (h : IniR w1 A bb rm gm nf L Z pp j Mb wr) (hj : j < 2) (b : Bool) (hb : b = decide (j = 1)) (k : Nat) {w6 : World} (hw6 : w6 = (wr.alloc (.cells (mmC A.p j (pp j) 5 5 b) 117)).drewN k) :
    w6.frozen? ⟨L, j, none⟩ = false ∧ w6.cell? ⟨L, j, none⟩ = some (.pointer none) ∧
    ∀ w7, w7 = w6.setCell ⟨L, j, none⟩ (.pointer (some ⟨wr.heap.size, 0, none⟩)) →
    w7.frozen? ⟨Z, j * 3, none⟩ = false ∧ w7.cell? ⟨Z, j * 3, none⟩ = some (.int .i64 0) ∧
    (w7.setCell ⟨Z, j * 3, none⟩ (.int .i64 (pp j))).frozen? ⟨Z, j * 3 + 1, none⟩ = false ∧ (w7.setCell ⟨Z, j * 3, none⟩ (.int .i64 (pp j))).cell? ⟨Z, j * 3 + 1, none⟩ = some (.int .i64 0) ∧
    ((w7.setCell ⟨Z, j * 3, none⟩ (.int .i64 (pp j))).setCell ⟨Z, j * 3 + 1, none⟩ (.int .i64 5)).frozen? ⟨Z, j * 3 + 2, none⟩ = false ∧ ((w7.setCell ⟨Z, j * 3, none⟩ (.int .i64 (pp j))).setCell ⟨Z, j * 3 + 1, none⟩ (.int .i64 5)).cell? ⟨Z, j * 3 + 2, none⟩ = some (.slice none 0 0) ∧
    IniR w1 A bb rm gm nf L Z pp (j + 1) (upd1 Mb j wr.heap.size) (((w7.setCell ⟨Z, j * 3, none⟩ (.int .i64 (pp j))).setCell ⟨Z, j * 3 + 1, none⟩ (.int .i64 5)).setCell ⟨Z, j * 3 + 2, none⟩ (.slice none 0 0)) := by
  subst hb
  have hf6 : Fr (fun _ => False) wr w6 := by rw [hw6]; exact ((Fr.refl _ wr).alloc _).drewN k
  have hl6 := h.lb.fr hf6 (fun q => q)
  have hz6 := h.zb.fr hf6 (fun q => q)
  have hn6 : Blk w6 wr.heap.size 117 (mmC A.p j (pp j) 5 5 (decide (j = 1))) := by rw [hw6]; exact (Blk.new wr 117 _).drewN k
  have hs6 : w6.heap.size = wr.heap.size + 1 := by rw [hw6]; exact World.size_alloc _ _
  refine ⟨hl6.frozen j, ?_, fun w7 hw7 => ?_⟩
  · rw [hl6.cell j]; rcases lt2 hj with rfl | rfl <;> rfl
  have f7 : Fr (fun q => q = L) w6 w7 := by rw [hw7]; exact (Fr.refl (fun q => q = L) _).set_ (p := ⟨L, j, none⟩) rfl _
  have hl7 := hl6.set_ j (.pointer (some ⟨wr.heap.size, 0, none⟩))
  rw [← hw7] at hl7
  have hzl : Z ≠ L := hz6.ne_ hl6 (by decide)
  have hz7 := hz6.fr f7 hzl
  obtain ⟨g1, g2, g3, g4, g5, g6, g7, g8⟩ := zC_set hz7 hj (pp j) 5 0 0 none
  have f10 := f7.more (T := fun q => q = L ∨ q = Z) (fun q hq => .inl hq) |>.trans (g8.more (fun q hq => .inr hq))
  refine ⟨g1, ?_, g3, ?_, g5, g6, ?_⟩
  · rw [g2, if_neg (Nat.lt_irrefl j)]; rfl
  · refine g4.trans ?_
    rw [if_neg (Nat.lt_irrefl j)]; rfl
  have hlt : ∀ i, i < j → Mb i < wr.heap.size := fun i hi => (h.mm i hi).lt
  refine ⟨?_, ?_, ?_, fun i hi => ?_, fun q => ?_⟩
  · refine (h.s1.ext (S := fun q => q = L ∨ q = Z) ((hf6.more (fun _ q => q.elim)).trans f10) (fun q hq => .inl (hq.elim .inl (fun e => .inr (.inl e)))) (fun q hq => ?_))
    rcases hq with e | e | ⟨i, hi, e⟩
    · exact .inl (.inl e)
    · exact .inl (.inr (.inl e))
    · unfold upd1 at e
      split at e
      · refine .inr ⟨by omega, ?_⟩
        exact Nat.lt_of_lt_of_le (show q < w6.heap.size by omega) f10.size
      · exact .inl (.inr (.inr ⟨i, by omega, e⟩))
  · have := hl7.fr g8 (fun q => hzl q.symm)
    rcases lt2 hj with rfl | rfl <;> exact this
  · rcases lt2 hj with rfl | rfl <;> exact g7
  · unfold upd1
    split
    · subst i
      exact hn6.fr f10 (fun q => q.elim (hn6.ne_ hl6 (by decide)) (hn6.ne_ hz6 (by decide)))
    · have hm := h.mm i (by omega)
      exact (hm.fr hf6 (fun q => q)).fr f10 (fun q => q.elim (hm.ne_ h.lb (by decide)) (hm.ne_ h.zb (by decide)))
  · obtain rfl : j = 1 := by omega
    have := hlt 0 (by omega)
    show Mb 0 ≠ wr.heap.size
    omega
/-- between two acts -/
def SR (w1 : World) (A : Pa) (bb rm gm nf L Z : Nat) (Mb : Nat → Nat) (j : Nat) (bx : Nat) (ac : Array Value) (wr : World) : Prop :=
  ∃ (X : Nat → Prop) (pg cp pz cz pn pc : Nat → Nat) (PA : Nat → Option Addr) (Ps : Nat → List (Nat × List Nat)), SI w1 A bb rm gm nf (9 * j) (60 * j) (con8 Ps 64) X L Z Mb pg cp pz cz pn pc PA Ps bx ac wr ∧ ∀ k, k < 2 → pz k = pg k ∧ cz k = cp k ∧ pn k ≤ j
theorem IniR.si {w1 : World} {A : Pa} {bb rm gm nf : Nat} {L Z : Nat} {pp : Nat → Nat} {Mb : Nat → Nat} {wr : World} (h : IniR w1 A bb rm gm nf L Z pp 2 Mb wr) (hp : ∀ i, pp i ≤ 3) : SR w1 A bb rm gm nf L Z Mb 0 0 #[] wr := by
  refine ⟨_, pp, fun _ => 5, _, _, _, _, _, fun _ => [], ⟨h.s1.con (con8_nil 64).symm, h.lb, h.zb, fun k hk => h.mm k hk, .inl rfl, .inr (.inl rfl), fun k hk => .inr (.inr ⟨k, hk, rfl⟩), h.ne (by omega), fun k _ => ⟨Nat.le_trans (hp k) (by omega), Nat.le_refl _⟩, fun k hk => ⟨⟨rfl, Nat.le_refl _, Nat.zero_le _, fun q => absurd q (Nat.lt_irrefl _)⟩, fun b off e => (by cases e), fun _ => ⟨rfl, rfl⟩⟩, fun q => absurd q (by simp), fun q => absurd q (by simp)⟩, fun k hk => ⟨if_pos hk, if_pos hk, Nat.le_refl _⟩⟩
end Go.Proofs.Ytlnffcledpccjaa
/-
  The pieces of SpacePlays' text.
-/
namespace Go.Proofs.Ytlnffcledpccjaa
set_option linter.unusedVariables false
/-- the text from region n on -/
def fromReg (n : Nat) : Code → Option Code
  | .seq a b => match a with
    | .region i _ _ => if i = n then some (.seq a b) else fromReg n b
    | c => match fromReg n c with
      | some c => some c
      | none => fromReg n b
  | .loop c => fromReg n c
  | .block _ c => fromReg n c
  | .scope c => fromReg n c
  | .cond _ a b => match fromReg n a with
    | some c => some c
    | none => fromReg n b
  | _ => none
noncomputable def spCode (n : Nat) : Code := ((Try.f6.body.bind (fromReg n)).getD .skip)
end Go.Proofs.Ytlnffcledpccjaa
/-
  What else an act wants: Grow with a cap below the pages, Copy beyond, a row of the document's written.
-/
namespace Go.Proofs.Ytlnffcledpccjaa
set_option linter.unusedVariables false
set_option linter.unusedSimpArgs false
open Go.ChangeShapes Go.WideShapes Go.ChangeAt
open Go.RowKit
theorem upd1_self {α : Type} (f : Nat → α) (k : Nat) : upd1 f k (f k) = f := by
  funext i; unfold upd1; split
  · subst i; rfl
  · rfl
theorem PutsIn.lt {K : Nat → Prop} {w : World} {A : Option Addr} {n cp : Nat} {P : List (Nat × List Nat)} (h : PutsIn K w A n) (hP : Puts w A n cp P) : PutsIn (fun q => K q ∧ q < w.heap.size) w A n := by
  intro b off e h0
  obtain ⟨k1, k2⟩ := h b off e h0
  obtain ⟨b0, e0, hx⟩ := hP.2.2.2 h0
  have e1 : b = b0 ∧ off = 0 := by
    rw [e] at e0; injection e0 with e0; injection e0 with e1 e2 _; exact ⟨e1, e2⟩
  obtain ⟨rfl, rfl⟩ := e1
  refine ⟨⟨k1, lt_of_cell (hx 0 h0).c0⟩, fun i hi B ln bc hc g hg hl => ⟨k2 i hi B ln bc hc g hg hl, ?_⟩⟩
  obtain ⟨B', bc', g1, g2⟩ := (hx i hi).ex
  rw [Nat.zero_add, g1] at hc
  have hv := Option.some.inj hc
  injection hv with q1 q2 q3
  subst q1
  obtain ⟨g', of', e', hlt, _⟩ := g2.2.2.2.2 (by omega)
  rw [e'] at hg
  simp at hg
  omega
section
variable {w0 w9 w10 : World} {A : Pa} {bb rm gm nf kk oo : Nat} {C C' : Nat × Nat → List Nat} {X : Nat → Prop} {L Z : Nat} {Mb pg cp pz cz pn pc : Nat → Nat} {PA : Nat → Option Addr} {Ps : Nat → List (Nat × List Nat)} {bx : Nat} {ac : Array Value}
theorem SI.wrote (h : SI w0 A bb rm gm nf kk oo C X L Z Mb pg cp pz cz pn pc PA Ps bx ac w9) {k : Nat} (hk : k < 2) {A' : Option Addr} {cp' a : Nat} {l : List Nat} (hP : Puts w10 A' (pn k + 1) cp' (Ps k ++ [(a, l)])) (hf : Fr (fun _ => False) w9 w10) (hK : ∀ K, PutsIn K w9 (PA k) (pn k) → PutsIn (fun q => K q ∨ w9.heap.size ≤ q) w10 A' (pn k + 1)) :
    w10.frozen? ⟨Z, k * 3, none⟩ = false ∧ w10.cell? ⟨Z, k * 3, none⟩ = some (.int .i64 (pz k)) ∧
    (w10.setCell ⟨Z, k * 3, none⟩ (.int .i64 (pz k))).frozen? ⟨Z, k * 3 + 1, none⟩ = false ∧ (w10.setCell ⟨Z, k * 3, none⟩ (.int .i64 (pz k))).cell? ⟨Z, k * 3 + 1, none⟩ = some (.int .i64 (cz k)) ∧
    ((w10.setCell ⟨Z, k * 3, none⟩ (.int .i64 (pz k))).setCell ⟨Z, k * 3 + 1, none⟩ (.int .i64 (cz k))).frozen? ⟨Z, k * 3 + 2, none⟩ = false ∧ ((w10.setCell ⟨Z, k * 3, none⟩ (.int .i64 (pz k))).setCell ⟨Z, k * 3 + 1, none⟩ (.int .i64 (cz k))).cell? ⟨Z, k * 3 + 2, none⟩ = some (.slice (PA k) (pn k) (pc k)) ∧
    SI w0 A bb rm gm nf kk oo C (fun q => X q ∨ (w9.heap.size ≤ q ∧ q < w10.heap.size)) L Z Mb pg cp pz cz (upd1 pn k (pn k + 1)) (upd1 pc k cp') (upd1 PA k A') (ext8 Ps k a l) bx ac (((w10.setCell ⟨Z, k * 3, none⟩ (.int .i64 (pz k))).setCell ⟨Z, k * 3 + 1, none⟩ (.int .i64 (cz k))).setCell ⟨Z, k * 3 + 2, none⟩ (.slice A' (pn k + 1) cp')) := by
  have h10 := h.quiet hf
  obtain ⟨c1, c2, c3, c4, c5, c6, c7, c8⟩ := zC_set h10.zb hk (pz k) (cz k) (pn k + 1) cp' A'
  rw [upd1_self, upd1_self] at c7
  refine ⟨c1, c2, c3, c4, c5, c6, h10.put c8 c7 (fun i hi => ?_)⟩
  unfold upd1 ext8
  split
  · subst i
    have hlt : ∀ q, SK X Z Mb q → q < w9.heap.size ∨ True := fun _ _ => .inr trivial
    have h1 := (hK _ (h.ps k hk).2.1).lt hP
    refine ⟨hP, h1.more (fun q hq => ?_), fun e => absurd e (by omega)⟩
    rcases hq.1 with e | e
    · exact e.more (fun _ => .inl)
    · have z1 := h.zb.lt
      have z2 := (h.mm 0 (by omega)).lt
      have z3 := (h.mm 1 (by omega)).lt
      exact ⟨.inr ⟨e, hq.2⟩, by omega, by omega, by omega⟩
  · exact h10.ps i hi
theorem SI.reset (h : SI w0 A bb rm gm nf kk oo C X L Z Mb pg cp pz cz pn pc PA Ps bx ac w10) {k : Nat} (hk : k < 2) (p : Nat) :
    w10.frozen? ⟨Z, k * 3, none⟩ = false ∧ w10.cell? ⟨Z, k * 3, none⟩ = some (.int .i64 (pz k)) ∧
    (w10.setCell ⟨Z, k * 3, none⟩ (.int .i64 p)).frozen? ⟨Z, k * 3 + 1, none⟩ = false ∧ (w10.setCell ⟨Z, k * 3, none⟩ (.int .i64 p)).cell? ⟨Z, k * 3 + 1, none⟩ = some (.int .i64 (cz k)) ∧
    ((w10.setCell ⟨Z, k * 3, none⟩ (.int .i64 p)).setCell ⟨Z, k * 3 + 1, none⟩ (.int .i64 (cz k))).frozen? ⟨Z, k * 3 + 2, none⟩ = false ∧ ((w10.setCell ⟨Z, k * 3, none⟩ (.int .i64 p)).setCell ⟨Z, k * 3 + 1, none⟩ (.int .i64 (cz k))).cell? ⟨Z, k * 3 + 2, none⟩ = some (.slice (PA k) (pn k) (pc k)) ∧
    SI w0 A bb rm gm nf kk oo C X L Z Mb pg cp (upd1 pz k p) cz pn pc PA Ps bx ac (((w10.setCell ⟨Z, k * 3, none⟩ (.int .i64 p)).setCell ⟨Z, k * 3 + 1, none⟩ (.int .i64 (cz k))).setCell ⟨Z, k * 3 + 2, none⟩ (.slice (PA k) (pn k) (pc k))) := by
  obtain ⟨c1, c2, c3, c4, c5, c6, c7, c8⟩ := zC_set h.zb hk p (cz k) (pn k) (pc k) (PA k)
  rw [upd1_self, upd1_self, upd1_self, upd1_self] at c7
  exact ⟨c1, c2, c3, c4, c5, c6, h.put c8 c7 h.ps⟩
theorem SI.recap (h : SI w0 A bb rm gm nf kk oo C X L Z Mb pg cp pz cz pn pc PA Ps bx ac w10) {k : Nat} (hk : k < 2) (c : Nat) :
    w10.frozen? ⟨Z, k * 3 + 1, none⟩ = false ∧ w10.cell? ⟨Z, k * 3 + 1, none⟩ = some (.int .i64 (cz k)) ∧
    SI w0 A bb rm gm nf kk oo C X L Z Mb pg cp pz (upd1 cz k c) pn pc PA Ps bx ac (w10.setCell ⟨Z, k * 3 + 1, none⟩ (.int .i64 c)) := by
  have b := h.zb.set_ (k * 3 + 1) (.int .i64 c)
  have f : Fr (fun q => q = Z) w10 (w10.setCell ⟨Z, k * 3 + 1, none⟩ (.int .i64 c)) := (Fr.refl (fun q => q = Z) _).set_ (p := ⟨Z, k * 3 + 1, none⟩) rfl _
  refine ⟨h.zb.frozen _, (h.zcell hk).2.1, h.put f ?_ h.ps⟩
  rcases lt2 hk with rfl | rfl <;> exact b
end
set_option maxRecDepth 100000 in
theorem Grow_yes {w : World} (M pg num pages most capped n : Nat) (wide : Bool) (hM : Blk w M 117 (mmC pg num pages most capped wide)) (hp : pages ≤ 65536) (hc : capped ≤ 65536) (hn : n ≤ capped - pages) :
    Calls Try.prog 34 #[.pointer (some ⟨M, 0, none⟩), .int .u64 n] w fun e w' => e = .returned (.tuple #[.int .i64 pages, .bool true]) ∧ Fr (fun q => q = M) w w' ∧ Blk w' M 117 (mmC pg num (pages + n) most capped wide) := by
  rcases (show pages ≤ capped ∨ capped < pages by omega) with h | h
  · exact Grow_ok M pg num pages most capped n wide hM hp hc (by omega)
  · obtain rfl : n = 0 := by omega
    have c2 : w.cell? ⟨M, 2, none⟩ = some (.int .i64 pages) := hM.cell 2
    have c4 : w.cell? ⟨M, 4, none⟩ = some (.int .i64 capped) := hM.cell 4
    have z2 := hM.frozen 2
    have HM := Lib.hid hM
    clear hM
    go_enter Try.func34, Try.ntmps34
    go_wp2_with fail
    go_quiet (fail)
    go_wp2_with fail
    all_goals
      go_ret2
      refine ⟨rfl, ((Fr.refl (fun q => q = M) w).drewN nq).set_ (p := ⟨M, 2, none⟩) rfl _, ?_⟩
      exact (HM.out.drewN nq).set_ 2 (.int .i64 pages)
set_option maxRecDepth 100000 in
theorem Grow_not {w : World} (M pg num pages most capped n : Nat) (wide : Bool) (hM : Blk w M 117 (mmC pg num pages most capped wide)) (hp : pages ≤ 65536) (hc : capped ≤ 65536) (hn : capped - pages < n) (hn2 : n ≤ 18446744073709551615) :
    Calls Try.prog 34 #[.pointer (some ⟨M, 0, none⟩), .int .u64 n] w fun e w' => e = .returned (.tuple #[.int .i64 0, .bool false]) ∧ ∃ k, w' = w.drewN k := by
  rcases (show pages ≤ capped ∨ capped < pages by omega) with h | h
  · exact Grow_no M pg num pages most capped n wide hM hp hc h (by omega) hn2
  · have c2 : w.cell? ⟨M, 2, none⟩ = some (.int .i64 pages) := hM.cell 2
    have c4 : w.cell? ⟨M, 4, none⟩ = some (.int .i64 capped) := hM.cell 4
    have hn0 : 0 < n := by omega
    clear hM hn
    go_enter Try.func34, Try.ntmps34
    go_wp2_with fail
    go_quiet (fail)
    go_wp2_with fail
    all_goals
      go_ret2
      exact ⟨rfl, _, rfl⟩
set_option maxRecDepth 100000 in
theorem MCopy_end {w : World} (M M2 pg num num2 pages pages2 most most2 capped capped2 to at_ n : Nat) (wide wide2 : Bool) (hM : Blk w M 117 (mmC pg num pages most capped wide)) (hM2 : Blk w M2 117 (mmC pg num2 pages2 most2 capped2 wide2)) (hp : pages ≤ 65536) (hp2 : pages2 ≤ 65536) (h1 : to ≤ 18446744073709551615) (h2 : at_ ≤ 18446744073709551615) (hn : n ≤ 18446744073709551615) (hb : (bey pages to 0 n || bey pages2 at_ 0 n) = true) :
    Calls Try.prog 33 #[.pointer (some ⟨M, 0, none⟩), .pointer (some ⟨M2, 0, none⟩), .int .u64 to, .int .u64 at_, .int .u64 n] w fun e w' => e = .returned (.tuple #[.int .i64 4, .int .i64 0]) ∧ w = w' := by
  have hb1' := beyond_ok M pg num pages most capped to 0 n wide hM hp (by omega) (by omega) (by omega)
  have hb2' := beyond_ok M2 pg num2 pages2 most2 capped2 at_ 0 n wide2 hM2 hp2 (by omega) (by omega) (by omega)
  have HB1 : Hid (Calls Try.prog 52 #[.pointer (some ⟨M, 0, none⟩), .int .u64 to, .int .u64 0, .int .u64 n] w fun e w' => e = .returned (.bool (bey pages to 0 n)) ∧ w = w') := Lib.hid hb1'
  have HB2 : Hid (Calls Try.prog 52 #[.pointer (some ⟨M2, 0, none⟩), .int .u64 at_, .int .u64 0, .int .u64 n] w fun e w' => e = .returned (.bool (bey pages2 at_ 0 n)) ∧ w = w') := Lib.hid hb2'
  clear hb1' hb2' hM hM2
  cases hq : bey pages to 0 n
  · rw [hq] at HB1 hb
    rw [Bool.false_or] at hb
    rw [hb] at HB2
    clear hq hb
    go_enter Try.func33, Try.ntmps33
    go_wp2_with fail
    with_reducible refine HB1.out.mono ?_
    rintro e w1 ⟨rfl, rfl⟩
    go_wp2_with fail
    with_reducible refine HB2.out.mono ?_
    rintro e w1 ⟨rfl, rfl⟩
    go_wp2_with fail
    go_ret2
    exact ⟨rfl, rfl⟩
  · rw [hq] at HB1
    clear hq hb
    go_enter Try.func33, Try.ntmps33
    go_wp2_with fail
    with_reducible refine HB1.out.mono ?_
    rintro e w1 ⟨rfl, rfl⟩
    go_wp2_with fail
    go_ret2
    exact ⟨rfl, rfl⟩
end Go.Proofs.Ytlnffcledpccjaa
