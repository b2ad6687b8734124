/-
  Called with any word, any numbers of bytes and bits, any bytes, and either answer to whether there is a sign, grommetlaw06.ConvBytes returns true, the tables of math/bits and internal/strconv lying as the program's text lays them; no other condition.
-/
import Derived.Test.YtmbnaejoiglckaaDoorCj
import Derived.Test.YtmbnaejoiglckaaDoorCards
import Derived.Deep.RegionHeld3
import Derived.WalkKit
import Derived.ProofKit
import Derived.OpenShut
import Derived.ShutString
import Derived.ChangeOld
import Derived.Below
namespace Go.Proofs.YtmbnaejoiglckaaDoor
open Go.ChangeShapes Go.WideShapes Go.ChangeAt Go.RowKit
set_option linter.unusedVariables false

theorem byte_lt {l : List Nat} (h : ∀ x ∈ l, x < 256) (i : Nat) : l.getD i 0 < 256 := by
  by_cases q : i < l.length
  · rw [List.getD_eq_getElem?_getD, List.getElem?_eq_getElem q]; exact h _ (List.getElem_mem q)
  · rw [List.getD_eq_getElem?_getD, List.getElem?_eq_none (by omega)]; decide
set_option maxHeartbeats 4000000 in
set_option maxRecDepth 100000 in
theorem cb_1 (a : Nat) (ha : a < 18446744073709551616) (A : Option Addr) (k cap : Nat) (l : List Nat) (t : Int) (s : Bool) (w : World) (hT : Pw w) (hb : Byt w A k cap l) (hk20 : (k : Int) ≤ 20) :
    Calls Tryd.prog 7 #[.int .u64 a, .int .i64 1, .slice A k cap, .int .i64 t, .bool s] w fun e w' => e = .returned (.bool true) ∧ Below w.heap.size w w' := by
  have AW := Lib.hid awake6_any
  have HT := Lib.hid hT
  have HB := Lib.hid hb
  have Y1 : Hid (∀ w1 : World, Calls Tryd.prog 22 #[.int .u64 a, .int .i64 1] w1 (YPost w1.heap.size 1 (bys a 1) w1)) := Lib.hid (fun w1 => Bytes_ok a 1 w1 (by decide) ha)
  have Z1 : Hid (∀ w1 : World, Calls Tryd.prog 23 #[.int .u64 a, .int .i64 1] w1 (ZPost w1.heap.size 1 (bys a 1) w1)) := Lib.hid (fun w1 => RBytes_any 1 a w1 (by decide) (by decide) ha)
  obtain ⟨L, eL⟩ : ∃ L, L = bys a 1 := ⟨_, rfl⟩
  rw [← eL] at Y1 Z1
  clear hT hb eL ha
  go_enter Tryd.func7, Tryd.ntmps7
  go_wp2_with (first
    | (go_at_call 22; (with_reducible refine (Y1.out _).mono ?_); rintro e w1 hY; unfold YPost at hY; obtain ⟨g1, rfl, b1, k1, h1⟩ := hY; have B1 := Lib.hid b1; have H1 := Lib.hid h1; have c1 : (convert 40 9 (.slice (some ⟨g1, 0, none⟩) 1 1)).run Tryd.prog w1.drew = .ok (.string (str L)) w1.drew := conv_byt (show Byt w1.drew (some ⟨g1, 0, none⟩) 1 1 L from b1); clear b1 h1))
  refine wp_region_held_drew (S := (fun w' => (convert 40 9 (.slice (some ⟨g1, 0, none⟩) 1 1)).run Tryd.prog w' = .ok (.string (str L)) w')) (by kernel_rfl) c1 (fun hHeld => ?_)
  refine wpAnyH_take (i := 0) (oi := ?oi_136) (v := ?_) ?hi_136 (by kernel_rfl) ?hf_136 (by kernel_rfl) ?hQ_136 ?hy_136 (by assumption) ?_
  case hi_136 => simp only [List.getElem?_toArray, List.getElem?_cons_zero, List.getElem?_cons_succ]; rfl
  case hf_136 => kernel_rfl
  case hQ_136 => exact fun _ _ _ h => h
  case hy_136 =>
    refine Or.inl ⟨by rfl, ?_⟩
    intro W hSw
    have q1 := hSw
    go_simp
    try with_reducible rfl
  try simp only [Act.put, List.setIfInBounds_toArray, List.set_cons_zero, List.set_cons_succ]
  refine wpAnyH_take (i := 1) (oi := ?oi_137) (v := ?_) ?hi_137 (by kernel_rfl) ?hf_137 (by kernel_rfl) ?hQ_137 ?hy_137 (by assumption) ?_
  case hi_137 => simp only [List.getElem?_toArray, List.getElem?_cons_zero, List.getElem?_cons_succ]; rfl
  case hf_137 => kernel_rfl
  case hQ_137 => exact fun _ _ _ h => h
  case hy_137 =>
    refine Or.inl ⟨by rfl, ?_⟩
    intro W hSw
    have q1 := hSw
    go_simp
    try with_reducible rfl
  try simp only [Act.put, List.setIfInBounds_toArray, List.set_cons_zero, List.set_cons_succ]
  refine wpAnyH_take (i := 2) (oi := ?oi_138) (v := ?_) ?hi_138 (by kernel_rfl) ?hf_138 (by kernel_rfl) ?hQ_138 ?hy_138 (by assumption) ?_
  case hi_138 => simp only [List.getElem?_toArray, List.getElem?_cons_zero, List.getElem?_cons_succ]; rfl
  case hf_138 => kernel_rfl
  case hQ_138 => exact fun _ _ _ h => h
  case hy_138 =>
    refine Or.inl ⟨by rfl, ?_⟩
    intro W hSw
    have q1 := hSw
    go_simp
    try with_reducible rfl
  try simp only [Act.put, List.setIfInBounds_toArray, List.set_cons_zero, List.set_cons_succ]
  refine wpAnyH_take (i := 3) (oi := ?oi_139) (v := ?_) ?hi_139 (by kernel_rfl) ?hf_139 (by kernel_rfl) ?hQ_139 ?hy_139 (by assumption) ?_
  case hi_139 => simp only [List.getElem?_toArray, List.getElem?_cons_zero, List.getElem?_cons_succ]; rfl
  case hf_139 => kernel_rfl
  case hQ_139 => exact fun _ _ _ h => h
  case hy_139 =>
    refine Or.inl ⟨by rfl, ?_⟩
    intro W hSw
    have q1 := hSw
    go_simp
    try with_reducible rfl
  try simp only [Act.put, List.setIfInBounds_toArray, List.set_cons_zero, List.set_cons_succ]
  refine wpAnyH_take (i := 4) (oi := ?oi_140) (v := ?_) ?hi_140 (by kernel_rfl) ?hf_140 (by kernel_rfl) ?hQ_140 ?hy_140 (by assumption) ?_
  case hi_140 => simp only [List.getElem?_toArray, List.getElem?_cons_zero, List.getElem?_cons_succ]; rfl
  case hf_140 => kernel_rfl
  case hQ_140 => exact fun _ _ _ h => h
  case hy_140 =>
    refine Or.inl ⟨by rfl, ?_⟩
    intro W hSw
    have q1 := hSw
    go_simp
    try with_reducible rfl
  try simp only [Act.put, List.setIfInBounds_toArray, List.set_cons_zero, List.set_cons_succ]
  refine wpAnyH_take (i := 5) (oi := ?oi_141) (v := ?_) ?hi_141 (by kernel_rfl) ?hf_141 (by kernel_rfl) ?hQ_141 ?hy_141 (by assumption) ?_
  case hi_141 => simp only [List.getElem?_toArray, List.getElem?_cons_zero, List.getElem?_cons_succ]; rfl
  case hf_141 => kernel_rfl
  case hQ_141 => exact fun _ _ _ h => h
  case hy_141 =>
    refine Or.inl ⟨by rfl, ?_⟩
    intro W hSw
    have q1 := hSw
    go_simp
    try with_reducible rfl
  try simp only [Act.put, List.setIfInBounds_toArray, List.set_cons_zero, List.set_cons_succ]
  refine wpAnyH_ready (rs := [6]) (by kernel_rfl) (by simp) ?_
  refine AllReadyH.cons (o := ?oi_142) ?hi_142 (fun K hK => ?_) AllReadyH.nil
  case hi_142 => simp only [List.getElem?_toArray, List.getElem?_cons_zero, List.getElem?_cons_succ]; rfl
  go_simp
  (go_at_call 23
   (with_reducible refine (Z1.out _).mono ?_)
   rintro e w2 hZ
   unfold ZPost at hZ
   obtain ⟨g2, cp2, rfl, b2, hg2, h2⟩ := hZ
   have h3 : Below w1.heap.size w1 w2 := ⟨h2.os, h2.tape, h2.output, h2.size, h2.block⟩
   have H2 := Lib.hid (H1.out.trans (h3.mono H1.out.size))
   have c2 := conv_byt b2
   have c3 := conv_byt (B1.out.kept h3)
   clear b2 h2 h3)
  refine hK.out _ _ c3 (fun hHeld => ?_)
  clear hK K
  try simp only [Act.put, List.setIfInBounds_toArray, List.set_cons_zero, List.set_cons_succ]
  refine wpAnyH_ready (rs := [7]) (by kernel_rfl) (by simp) ?_
  refine AllReadyH.cons (o := ?oi_143) ?hi_143 (fun K hK => ?_) AllReadyH.nil
  case hi_143 => simp only [List.getElem?_toArray, List.getElem?_cons_zero, List.getElem?_cons_succ]; rfl
  go_simp
  refine hK.out _ _ c3 (fun hHeld => ?_)
  clear hK K
  try simp only [Act.put, List.setIfInBounds_toArray, List.set_cons_zero, List.set_cons_succ]
  refine wpAnyH_take (i := 8) (oi := ?oi_144) (v := ?_) ?hi_144 (by kernel_rfl) ?hf_144 (by kernel_rfl) ?hQ_144 ?hy_144 (by assumption) ?_
  case hi_144 => simp only [List.getElem?_toArray, List.getElem?_cons_zero, List.getElem?_cons_succ]; rfl
  case hf_144 => kernel_rfl
  case hQ_144 => exact fun _ _ _ h => h
  case hy_144 =>
    refine Or.inl ⟨by rfl, ?_⟩
    intro W hSw
    have q1 := hSw
    go_simp
    try with_reducible rfl
  try simp only [Act.put, List.setIfInBounds_toArray, List.set_cons_zero, List.set_cons_succ]
  refine wpAnyH_take (i := 9) (oi := ?oi_145) (v := ?_) ?hi_145 (by kernel_rfl) ?hf_145 (by kernel_rfl) ?hQ_145 ?hy_145 (by assumption) ?_
  case hi_145 => simp only [List.getElem?_toArray, List.getElem?_cons_zero, List.getElem?_cons_succ]; rfl
  case hf_145 => kernel_rfl
  case hQ_145 => exact fun _ _ _ h => h
  case hy_145 =>
    refine Or.inl ⟨by rfl, ?_⟩
    intro W hSw
    have q1 := hSw
    go_simp
    try with_reducible rfl
  try simp only [Act.put, List.setIfInBounds_toArray, List.set_cons_zero, List.set_cons_succ]
  refine wpAnyH_take (i := 10) (oi := ?oi_146) (v := ?_) ?hi_146 (by kernel_rfl) ?hf_146 (by kernel_rfl) ?hQ_146 ?hy_146 (by assumption) ?_
  case hi_146 => simp only [List.getElem?_toArray, List.getElem?_cons_zero, List.getElem?_cons_succ]; rfl
  case hf_146 => kernel_rfl
  case hQ_146 => exact fun _ _ _ h => h
  case hy_146 =>
    refine Or.inl ⟨by rfl, ?_⟩
    intro W hSw
    have q1 := hSw
    go_simp
    try with_reducible rfl
  try simp only [Act.put, List.setIfInBounds_toArray, List.set_cons_zero, List.set_cons_succ]
  refine wpAnyH_take (i := 11) (oi := ?oi_147) (v := ?_) ?hi_147 (by kernel_rfl) ?hf_147 (by kernel_rfl) ?hQ_147 ?hy_147 (by assumption) ?_
  case hi_147 => simp only [List.getElem?_toArray, List.getElem?_cons_zero, List.getElem?_cons_succ]; rfl
  case hf_147 => kernel_rfl
  case hQ_147 => exact fun _ _ _ h => h
  case hy_147 =>
    refine Or.inl ⟨by rfl, ?_⟩
    intro W hSw
    have q1 := hSw
    go_simp
    try with_reducible rfl
  try simp only [Act.put, List.setIfInBounds_toArray, List.set_cons_zero, List.set_cons_succ]
  refine wpAnyH_take (i := 12) (oi := ?oi_148) (v := ?_) ?hi_148 (by kernel_rfl) ?hf_148 (by kernel_rfl) ?hQ_148 ?hy_148 (by assumption) ?_
  case hi_148 => simp only [List.getElem?_toArray, List.getElem?_cons_zero, List.getElem?_cons_succ]; rfl
  case hf_148 => kernel_rfl
  case hQ_148 => exact fun _ _ _ h => h
  case hy_148 =>
    refine Or.inl ⟨by rfl, ?_⟩
    intro W hSw
    have q1 := hSw
    go_simp
    try with_reducible rfl
  try simp only [Act.put, List.setIfInBounds_toArray, List.set_cons_zero, List.set_cons_succ]
  refine wpAnyH_take (i := 13) (oi := ?oi_149) (v := ?_) ?hi_149 (by kernel_rfl) ?hf_149 (by kernel_rfl) ?hQ_149 ?hy_149 (by assumption) ?_
  case hi_149 => simp only [List.getElem?_toArray, List.getElem?_cons_zero, List.getElem?_cons_succ]; rfl
  case hf_149 => kernel_rfl
  case hQ_149 => exact fun _ _ _ h => h
  case hy_149 =>
    refine Or.inl ⟨by rfl, ?_⟩
    intro W hSw
    have q1 := hSw
    go_simp
    try with_reducible rfl
  try simp only [Act.put, List.setIfInBounds_toArray, List.set_cons_zero, List.set_cons_succ]
  refine wpAnyH_take (i := 14) (oi := ?oi_150) (v := ?_) ?hi_150 (by kernel_rfl) ?hf_150 (by kernel_rfl) ?hQ_150 ?hy_150 (by assumption) ?_
  case hi_150 => simp only [List.getElem?_toArray, List.getElem?_cons_zero, List.getElem?_cons_succ]; rfl
  case hf_150 => kernel_rfl
  case hQ_150 => exact fun _ _ _ h => h
  case hy_150 =>
    refine Or.inl ⟨by rfl, ?_⟩
    intro W hSw
    have q1 := hSw
    go_simp
    try with_reducible rfl
  try simp only [Act.put, List.setIfInBounds_toArray, List.set_cons_zero, List.set_cons_succ]
  refine wpAnyH_take (i := 15) (oi := ?oi_151) (v := ?_) ?hi_151 (by kernel_rfl) ?hf_151 (by kernel_rfl) ?hQ_151 ?hy_151 (by assumption) ?_
  case hi_151 => simp only [List.getElem?_toArray, List.getElem?_cons_zero, List.getElem?_cons_succ]; rfl
  case hf_151 => kernel_rfl
  case hQ_151 => exact fun _ _ _ h => h
  case hy_151 =>
    refine Or.inl ⟨by rfl, ?_⟩
    intro W hSw
    have q1 := hSw
    go_simp
    try with_reducible rfl
  try simp only [Act.put, List.setIfInBounds_toArray, List.set_cons_zero, List.set_cons_succ]
  refine wpAnyH_take (i := 16) (oi := ?oi_152) (v := ?_) ?hi_152 (by kernel_rfl) ?hf_152 (by kernel_rfl) ?hQ_152 ?hy_152 (by assumption) ?_
  case hi_152 => simp only [List.getElem?_toArray, List.getElem?_cons_zero, List.getElem?_cons_succ]; rfl
  case hf_152 => kernel_rfl
  case hQ_152 => exact fun _ _ _ h => h
  case hy_152 =>
    refine Or.inl ⟨by rfl, ?_⟩
    intro W hSw
    have q1 := hSw
    go_simp
    try with_reducible rfl
  try simp only [Act.put, List.setIfInBounds_toArray, List.set_cons_zero, List.set_cons_succ]
  refine wpAnyH_take (i := 17) (oi := ?oi_153) (v := ?_) ?hi_153 (by kernel_rfl) ?hf_153 (by kernel_rfl) ?hQ_153 ?hy_153 (by assumption) ?_
  case hi_153 => simp only [List.getElem?_toArray, List.getElem?_cons_zero, List.getElem?_cons_succ]; rfl
  case hf_153 => kernel_rfl
  case hQ_153 => exact fun _ _ _ h => h
  case hy_153 =>
    refine Or.inl ⟨by rfl, ?_⟩
    intro W hSw
    have q1 := hSw
    go_simp
    try with_reducible rfl
  try simp only [Act.put, List.setIfInBounds_toArray, List.set_cons_zero, List.set_cons_succ]
  refine wpAnyH_take (i := 18) (oi := ?oi_154) (v := undef) ?hi_154 (by kernel_rfl) ?hf_154 (by kernel_rfl) ?hQ_154 ?hy_154 (by assumption) ?_
  case hi_154 => simp only [List.getElem?_toArray, List.getElem?_cons_zero, List.getElem?_cons_succ]; rfl
  case hf_154 => kernel_rfl
  case hQ_154 => exact fun _ _ _ h => h
  case hy_154 => exact Or.inr ⟨by rfl, rfl⟩
  try simp only [Act.put, List.setIfInBounds_toArray, List.set_cons_zero, List.set_cons_succ]
  refine wpAnyH_take (i := 19) (oi := ?oi_155) (v := undef) ?hi_155 (by kernel_rfl) ?hf_155 (by kernel_rfl) ?hQ_155 ?hy_155 (by assumption) ?_
  case hi_155 => simp only [List.getElem?_toArray, List.getElem?_cons_zero, List.getElem?_cons_succ]; rfl
  case hf_155 => kernel_rfl
  case hQ_155 => exact fun _ _ _ h => h
  case hy_155 => exact Or.inr ⟨by rfl, rfl⟩
  try simp only [Act.put, List.setIfInBounds_toArray, List.set_cons_zero, List.set_cons_succ]
  refine wpAnyH_take (i := 20) (oi := ?oi_156) (v := undef) ?hi_156 (by kernel_rfl) ?hf_156 (by kernel_rfl) ?hQ_156 ?hy_156 (by assumption) ?_
  case hi_156 => simp only [List.getElem?_toArray, List.getElem?_cons_zero, List.getElem?_cons_succ]; rfl
  case hf_156 => kernel_rfl
  case hQ_156 => exact fun _ _ _ h => h
  case hy_156 => exact Or.inr ⟨by rfl, rfl⟩
  try simp only [Act.put, List.setIfInBounds_toArray, List.set_cons_zero, List.set_cons_succ]
  refine wpAnyH_take (i := 21) (oi := ?oi_157) (v := undef) ?hi_157 (by kernel_rfl) ?hf_157 (by kernel_rfl) ?hQ_157 ?hy_157 (by assumption) ?_
  case hi_157 => simp only [List.getElem?_toArray, List.getElem?_cons_zero, List.getElem?_cons_succ]; rfl
  case hf_157 => kernel_rfl
  case hQ_157 => exact fun _ _ _ h => h
  case hy_157 => exact Or.inr ⟨by rfl, rfl⟩
  try simp only [Act.put, List.setIfInBounds_toArray, List.set_cons_zero, List.set_cons_succ]
  refine wpAnyH_take (i := 22) (oi := ?oi_158) (v := undef) ?hi_158 (by kernel_rfl) ?hf_158 (by kernel_rfl) ?hQ_158 ?hy_158 (by assumption) ?_
  case hi_158 => simp only [List.getElem?_toArray, List.getElem?_cons_zero, List.getElem?_cons_succ]; rfl
  case hf_158 => kernel_rfl
  case hQ_158 => exact fun _ _ _ h => h
  case hy_158 => exact Or.inr ⟨by rfl, rfl⟩
  try simp only [Act.put, List.setIfInBounds_toArray, List.set_cons_zero, List.set_cons_succ]
  refine wpAnyH_take (i := 23) (oi := ?oi_159) (v := undef) ?hi_159 (by kernel_rfl) ?hf_159 (by kernel_rfl) ?hQ_159 ?hy_159 (by assumption) ?_
  case hi_159 => simp only [List.getElem?_toArray, List.getElem?_cons_zero, List.getElem?_cons_succ]; rfl
  case hf_159 => kernel_rfl
  case hQ_159 => exact fun _ _ _ h => h
  case hy_159 => exact Or.inr ⟨by rfl, rfl⟩
  try simp only [Act.put, List.setIfInBounds_toArray, List.set_cons_zero, List.set_cons_succ]
  refine wpAnyH_take (i := 24) (oi := ?oi_160) (v := undef) ?hi_160 (by kernel_rfl) ?hf_160 (by kernel_rfl) ?hQ_160 ?hy_160 (by assumption) ?_
  case hi_160 => simp only [List.getElem?_toArray, List.getElem?_cons_zero, List.getElem?_cons_succ]; rfl
  case hf_160 => kernel_rfl
  case hQ_160 => exact fun _ _ _ h => h
  case hy_160 => exact Or.inr ⟨by rfl, rfl⟩
  try simp only [Act.put, List.setIfInBounds_toArray, List.set_cons_zero, List.set_cons_succ]
  refine wpAnyH_take (i := 25) (oi := ?oi_161) (v := ?_) ?hi_161 (by kernel_rfl) ?hf_161 (by kernel_rfl) ?hQ_161 ?hy_161 (by assumption) ?_
  case hi_161 => simp only [List.getElem?_toArray, List.getElem?_cons_zero, List.getElem?_cons_succ]; rfl
  case hf_161 => kernel_rfl
  case hQ_161 => exact fun _ _ _ h => h
  case hy_161 =>
    refine Or.inl ⟨by rfl, ?_⟩
    intro W hSw
    have q1 := hSw
    go_simp
    try with_reducible rfl
  try simp only [Act.put, List.setIfInBounds_toArray, List.set_cons_zero, List.set_cons_succ]
  refine wpAnyH_take (i := 26) (oi := ?oi_162) (v := ?_) ?hi_162 (by kernel_rfl) ?hf_162 (by kernel_rfl) ?hQ_162 ?hy_162 (by assumption) ?_
  case hi_162 => simp only [List.getElem?_toArray, List.getElem?_cons_zero, List.getElem?_cons_succ]; rfl
  case hf_162 => kernel_rfl
  case hQ_162 => exact fun _ _ _ h => h
  case hy_162 =>
    refine Or.inl ⟨by rfl, ?_⟩
    intro W hSw
    have q1 := hSw
    go_simp
    try with_reducible rfl
  try simp only [Act.put, List.setIfInBounds_toArray, List.set_cons_zero, List.set_cons_succ]
  refine wpAnyH_done (by kernel_rfl) ?_ _
  clear hHeld c1 c2 c3
  clear B1 H1 Y1 Z1
  by_cases hk : cnt4 (k : Int)
  · have HBk := Lib.hid (HB.out.kept H2.out)
    have hk' : k = 1 ∨ k = 2 ∨ k = 4 ∨ k = 8 := by unfold cnt4 at hk; omega
    clear hk
    rcases hk' with rfl | rfl | rfl | rfl
    · have WO := Lib.hid (Word_ok A 1 cap l w2 (by omega) HBk.out)
      have RW := Lib.hid (RWord_any A 1 cap l w2 (by omega) (by omega) HBk.out)
      have hvl : wv (fun i => l.getD i 0) 1 < 18446744073709551616 := Nat.lt_of_lt_of_le (wv_lt _ 1 (fun i _ => byte_lt HBk.out.2.1 i)) (by decide)
      have HVL := Lib.hid hvl
      clear hvl
      by_cases ht32 : t = 32
      · subst ht32
        have LO := Lib.hid (Load_1_32 A cap l s w2 HBk.out)
        have RE : Hid (Calls Tryd.prog 21 #[.int .i64 8, .int .i64 32, .bool s, .int .u64 ((wv (fun i => l.getD i 0) 1 : Nat) : Int)] w2 fun e w' => e = .returned (.int .u64 ((exv 8 32 s (wv (fun i => l.getD i 0) 1) : Nat) : Int)) ∧ Below w2.heap.size w2 w') := Lib.hid (RExtend_any 8 32 s _ w2 (by omega) (by unfold Wd.ok; omega) HVL.out)
        clear HVL
        generalize exv 8 32 s (wv (fun i => l.getD i 0) 1) = x at LO RE
        generalize wv (fun i => l.getD i 0) 1 = v at WO RW RE
        go_wp2_with (first
          | (go_at_call 24; refine WO.out.mono ?_; rintro e w3 ⟨rfl, rfl⟩)
          | (go_at_call 25; refine LO.out.mono ?_; rintro e w3 ⟨rfl, rfl⟩)
          | (go_at_call 26; refine RW.out.mono ?_; rintro e w3 ⟨rfl, rfl⟩)
          | (go_at_call 21; refine RE.out.mono ?_; rintro e w4 ⟨rfl, h4⟩; have H4 := Lib.hid (H2.out.trans (h4.mono H2.out.size)); clear h4)
          | (go_at_call 20; refine (AW.out _ (HT.out.below H4.out HT.out.size)).mono ?_; rintro e w5 ⟨rfl, h5⟩; have H5 := Lib.hid (H4.out.trans (h5.mono H4.out.size)); clear h5))
        go_ret
        exact ⟨rfl, H5.out⟩
      by_cases ht64 : t = 64
      · subst ht64
        have LO := Lib.hid (Load_1_64 A cap l s w2 HBk.out)
        have RE : Hid (Calls Tryd.prog 21 #[.int .i64 8, .int .i64 64, .bool s, .int .u64 ((wv (fun i => l.getD i 0) 1 : Nat) : Int)] w2 fun e w' => e = .returned (.int .u64 ((exv 8 64 s (wv (fun i => l.getD i 0) 1) : Nat) : Int)) ∧ Below w2.heap.size w2 w') := Lib.hid (RExtend_any 8 64 s _ w2 (by omega) (by unfold Wd.ok; omega) HVL.out)
        clear HVL
        generalize exv 8 64 s (wv (fun i => l.getD i 0) 1) = x at LO RE
        generalize wv (fun i => l.getD i 0) 1 = v at WO RW RE
        go_wp2_with (first
          | (go_at_call 24; refine WO.out.mono ?_; rintro e w3 ⟨rfl, rfl⟩)
          | (go_at_call 25; refine LO.out.mono ?_; rintro e w3 ⟨rfl, rfl⟩)
          | (go_at_call 26; refine RW.out.mono ?_; rintro e w3 ⟨rfl, rfl⟩)
          | (go_at_call 21; refine RE.out.mono ?_; rintro e w4 ⟨rfl, h4⟩; have H4 := Lib.hid (H2.out.trans (h4.mono H2.out.size)); clear h4)
          | (go_at_call 20; refine (AW.out _ (HT.out.below H4.out HT.out.size)).mono ?_; rintro e w5 ⟨rfl, h5⟩; have H5 := Lib.hid (H4.out.trans (h5.mono H4.out.size)); clear h5))
        go_ret
        exact ⟨rfl, H5.out⟩
      have LO := Lib.hid (Load_bad2 A 1 cap l t s w2 (by omega) HBk.out (by unfold Wd.ok; omega))
      have n1 : (t != 32) = true := by simpa using ht32
      have n2 : (t != 64) = true := by simpa using ht64
      have n3 : (t == 64) = false := by simpa using ht64
      clear ht32 ht64
      clear HVL
      generalize wv (fun i => l.getD i 0) 1 = v at WO RW
      go_wp2_with (first
        | (go_at_call 24; refine WO.out.mono ?_; rintro e w3 ⟨rfl, rfl⟩)
        | (go_at_call 25; refine LO.out.mono ?_; rintro e w3 ⟨rfl, rfl⟩)
        | (go_at_call 26; refine RW.out.mono ?_; rintro e w3 ⟨rfl, rfl⟩)
        | (go_at_call 20; refine (AW.out _ (HT.out.below H2.out HT.out.size)).mono ?_; rintro e w5 ⟨rfl, h5⟩; have H5 := Lib.hid (H2.out.trans (h5.mono H2.out.size)); clear h5))
      go_ret
      exact ⟨rfl, H5.out⟩
    · have WO := Lib.hid (Word_ok A 2 cap l w2 (by omega) HBk.out)
      have RW := Lib.hid (RWord_any A 2 cap l w2 (by omega) (by omega) HBk.out)
      have hvl : wv (fun i => l.getD i 0) 2 < 18446744073709551616 := Nat.lt_of_lt_of_le (wv_lt _ 2 (fun i _ => byte_lt HBk.out.2.1 i)) (by decide)
      have HVL := Lib.hid hvl
      clear hvl
      by_cases ht32 : t = 32
      · subst ht32
        have LO := Lib.hid (Load_2_32 A cap l s w2 HBk.out)
        have RE : Hid (Calls Tryd.prog 21 #[.int .i64 16, .int .i64 32, .bool s, .int .u64 ((wv (fun i => l.getD i 0) 2 : Nat) : Int)] w2 fun e w' => e = .returned (.int .u64 ((exv 16 32 s (wv (fun i => l.getD i 0) 2) : Nat) : Int)) ∧ Below w2.heap.size w2 w') := Lib.hid (RExtend_any 16 32 s _ w2 (by omega) (by unfold Wd.ok; omega) HVL.out)
        clear HVL
        generalize exv 16 32 s (wv (fun i => l.getD i 0) 2) = x at LO RE
        generalize wv (fun i => l.getD i 0) 2 = v at WO RW RE
        go_wp2_with (first
          | (go_at_call 24; refine WO.out.mono ?_; rintro e w3 ⟨rfl, rfl⟩)
          | (go_at_call 25; refine LO.out.mono ?_; rintro e w3 ⟨rfl, rfl⟩)
          | (go_at_call 26; refine RW.out.mono ?_; rintro e w3 ⟨rfl, rfl⟩)
          | (go_at_call 21; refine RE.out.mono ?_; rintro e w4 ⟨rfl, h4⟩; have H4 := Lib.hid (H2.out.trans (h4.mono H2.out.size)); clear h4)
          | (go_at_call 20; refine (AW.out _ (HT.out.below H4.out HT.out.size)).mono ?_; rintro e w5 ⟨rfl, h5⟩; have H5 := Lib.hid (H4.out.trans (h5.mono H4.out.size)); clear h5))
        go_ret
        exact ⟨rfl, H5.out⟩
      by_cases ht64 : t = 64
      · subst ht64
        have LO := Lib.hid (Load_2_64 A cap l s w2 HBk.out)
        have RE : Hid (Calls Tryd.prog 21 #[.int .i64 16, .int .i64 64, .bool s, .int .u64 ((wv (fun i => l.getD i 0) 2 : Nat) : Int)] w2 fun e w' => e = .returned (.int .u64 ((exv 16 64 s (wv (fun i => l.getD i 0) 2) : Nat) : Int)) ∧ Below w2.heap.size w2 w') := Lib.hid (RExtend_any 16 64 s _ w2 (by omega) (by unfold Wd.ok; omega) HVL.out)
        clear HVL
        generalize exv 16 64 s (wv (fun i => l.getD i 0) 2) = x at LO RE
        generalize wv (fun i => l.getD i 0) 2 = v at WO RW RE
        go_wp2_with (first
          | (go_at_call 24; refine WO.out.mono ?_; rintro e w3 ⟨rfl, rfl⟩)
          | (go_at_call 25; refine LO.out.mono ?_; rintro e w3 ⟨rfl, rfl⟩)
          | (go_at_call 26; refine RW.out.mono ?_; rintro e w3 ⟨rfl, rfl⟩)
          | (go_at_call 21; refine RE.out.mono ?_; rintro e w4 ⟨rfl, h4⟩; have H4 := Lib.hid (H2.out.trans (h4.mono H2.out.size)); clear h4)
          | (go_at_call 20; refine (AW.out _ (HT.out.below H4.out HT.out.size)).mono ?_; rintro e w5 ⟨rfl, h5⟩; have H5 := Lib.hid (H4.out.trans (h5.mono H4.out.size)); clear h5))
        go_ret
        exact ⟨rfl, H5.out⟩
      have LO := Lib.hid (Load_bad2 A 2 cap l t s w2 (by omega) HBk.out (by unfold Wd.ok; omega))
      have n1 : (t != 32) = true := by simpa using ht32
      have n2 : (t != 64) = true := by simpa using ht64
      have n3 : (t == 64) = false := by simpa using ht64
      clear ht32 ht64
      clear HVL
      generalize wv (fun i => l.getD i 0) 2 = v at WO RW
      go_wp2_with (first
        | (go_at_call 24; refine WO.out.mono ?_; rintro e w3 ⟨rfl, rfl⟩)
        | (go_at_call 25; refine LO.out.mono ?_; rintro e w3 ⟨rfl, rfl⟩)
        | (go_at_call 26; refine RW.out.mono ?_; rintro e w3 ⟨rfl, rfl⟩)
        | (go_at_call 20; refine (AW.out _ (HT.out.below H2.out HT.out.size)).mono ?_; rintro e w5 ⟨rfl, h5⟩; have H5 := Lib.hid (H2.out.trans (h5.mono H2.out.size)); clear h5))
      go_ret
      exact ⟨rfl, H5.out⟩
    · have WO := Lib.hid (Word_ok A 4 cap l w2 (by omega) HBk.out)
      have RW := Lib.hid (RWord_any A 4 cap l w2 (by omega) (by omega) HBk.out)
      have hvl : wv (fun i => l.getD i 0) 4 < 18446744073709551616 := Nat.lt_of_lt_of_le (wv_lt _ 4 (fun i _ => byte_lt HBk.out.2.1 i)) (by decide)
      have HVL := Lib.hid hvl
      clear hvl
      by_cases ht32 : t = 32
      · subst ht32
        have LO := Lib.hid (Load_4_32 A cap l s w2 HBk.out)
        have RE : Hid (Calls Tryd.prog 21 #[.int .i64 32, .int .i64 32, .bool s, .int .u64 ((wv (fun i => l.getD i 0) 4 : Nat) : Int)] w2 fun e w' => e = .returned (.int .u64 ((exv 32 32 s (wv (fun i => l.getD i 0) 4) : Nat) : Int)) ∧ Below w2.heap.size w2 w') := Lib.hid (RExtend_any 32 32 s _ w2 (by omega) (by unfold Wd.ok; omega) HVL.out)
        clear HVL
        generalize exv 32 32 s (wv (fun i => l.getD i 0) 4) = x at LO RE
        generalize wv (fun i => l.getD i 0) 4 = v at WO RW RE
        go_wp2_with (first
          | (go_at_call 24; refine WO.out.mono ?_; rintro e w3 ⟨rfl, rfl⟩)
          | (go_at_call 25; refine LO.out.mono ?_; rintro e w3 ⟨rfl, rfl⟩)
          | (go_at_call 26; refine RW.out.mono ?_; rintro e w3 ⟨rfl, rfl⟩)
          | (go_at_call 21; refine RE.out.mono ?_; rintro e w4 ⟨rfl, h4⟩; have H4 := Lib.hid (H2.out.trans (h4.mono H2.out.size)); clear h4)
          | (go_at_call 20; refine (AW.out _ (HT.out.below H4.out HT.out.size)).mono ?_; rintro e w5 ⟨rfl, h5⟩; have H5 := Lib.hid (H4.out.trans (h5.mono H4.out.size)); clear h5))
        go_ret
        exact ⟨rfl, H5.out⟩
      by_cases ht64 : t = 64
      · subst ht64
        have LO := Lib.hid (Load_4_64 A cap l s w2 HBk.out)
        have RE : Hid (Calls Tryd.prog 21 #[.int .i64 32, .int .i64 64, .bool s, .int .u64 ((wv (fun i => l.getD i 0) 4 : Nat) : Int)] w2 fun e w' => e = .returned (.int .u64 ((exv 32 64 s (wv (fun i => l.getD i 0) 4) : Nat) : Int)) ∧ Below w2.heap.size w2 w') := Lib.hid (RExtend_any 32 64 s _ w2 (by omega) (by unfold Wd.ok; omega) HVL.out)
        clear HVL
        generalize exv 32 64 s (wv (fun i => l.getD i 0) 4) = x at LO RE
        generalize wv (fun i => l.getD i 0) 4 = v at WO RW RE
        go_wp2_with (first
          | (go_at_call 24; refine WO.out.mono ?_; rintro e w3 ⟨rfl, rfl⟩)
          | (go_at_call 25; refine LO.out.mono ?_; rintro e w3 ⟨rfl, rfl⟩)
          | (go_at_call 26; refine RW.out.mono ?_; rintro e w3 ⟨rfl, rfl⟩)
          | (go_at_call 21; refine RE.out.mono ?_; rintro e w4 ⟨rfl, h4⟩; have H4 := Lib.hid (H2.out.trans (h4.mono H2.out.size)); clear h4)
          | (go_at_call 20; refine (AW.out _ (HT.out.below H4.out HT.out.size)).mono ?_; rintro e w5 ⟨rfl, h5⟩; have H5 := Lib.hid (H4.out.trans (h5.mono H4.out.size)); clear h5))
        go_ret
        exact ⟨rfl, H5.out⟩
      have LO := Lib.hid (Load_bad2 A 4 cap l t s w2 (by omega) HBk.out (by unfold Wd.ok; omega))
      have n1 : (t != 32) = true := by simpa using ht32
      have n2 : (t != 64) = true := by simpa using ht64
      have n3 : (t == 64) = false := by simpa using ht64
      clear ht32 ht64
      clear HVL
      generalize wv (fun i => l.getD i 0) 4 = v at WO RW
      go_wp2_with (first
        | (go_at_call 24; refine WO.out.mono ?_; rintro e w3 ⟨rfl, rfl⟩)
        | (go_at_call 25; refine LO.out.mono ?_; rintro e w3 ⟨rfl, rfl⟩)
        | (go_at_call 26; refine RW.out.mono ?_; rintro e w3 ⟨rfl, rfl⟩)
        | (go_at_call 20; refine (AW.out _ (HT.out.below H2.out HT.out.size)).mono ?_; rintro e w5 ⟨rfl, h5⟩; have H5 := Lib.hid (H2.out.trans (h5.mono H2.out.size)); clear h5))
      go_ret
      exact ⟨rfl, H5.out⟩
    · have WO := Lib.hid (Word_ok A 8 cap l w2 (by omega) HBk.out)
      have RW := Lib.hid (RWord_any A 8 cap l w2 (by omega) (by omega) HBk.out)
      have hvl : wv (fun i => l.getD i 0) 8 < 18446744073709551616 := Nat.lt_of_lt_of_le (wv_lt _ 8 (fun i _ => byte_lt HBk.out.2.1 i)) (by decide)
      have HVL := Lib.hid hvl
      clear hvl
      by_cases ht64 : t = 64
      · subst ht64
        have LO := Lib.hid (Load_8_64 A cap l s w2 HBk.out)
        have hx : ∀ v : Nat, v < 18446744073709551616 → exv 64 64 s v = v := fun v hv => by
          simp [exv]
          omega
        rw [hx _ HVL.out] at LO
        clear hx HVL
        generalize wv (fun i => l.getD i 0) 8 = v at WO RW LO
        go_wp2_with (first
          | (go_at_call 24; refine WO.out.mono ?_; rintro e w3 ⟨rfl, rfl⟩)
          | (go_at_call 25; refine LO.out.mono ?_; rintro e w3 ⟨rfl, rfl⟩)
          | (go_at_call 26; refine RW.out.mono ?_; rintro e w3 ⟨rfl, rfl⟩)
          | (go_at_call 20; refine (AW.out _ (HT.out.below H2.out HT.out.size)).mono ?_; rintro e w5 ⟨rfl, h5⟩; have H5 := Lib.hid (H2.out.trans (h5.mono H2.out.size)); clear h5))
        go_ret
        exact ⟨rfl, H5.out⟩
      by_cases ht32 : t = 32
      · subst ht32
        have LO := Lib.hid (Load_bad8 A cap l s w2 HBk.out)
        clear HVL
        generalize wv (fun i => l.getD i 0) 8 = v at WO RW
        go_wp2_with (first
          | (go_at_call 24; refine WO.out.mono ?_; rintro e w3 ⟨rfl, rfl⟩)
          | (go_at_call 25; refine LO.out.mono ?_; rintro e w3 ⟨rfl, rfl⟩)
          | (go_at_call 26; refine RW.out.mono ?_; rintro e w3 ⟨rfl, rfl⟩)
          | (go_at_call 20; refine (AW.out _ (HT.out.below H2.out HT.out.size)).mono ?_; rintro e w5 ⟨rfl, h5⟩; have H5 := Lib.hid (H2.out.trans (h5.mono H2.out.size)); clear h5))
        go_ret
        exact ⟨rfl, H5.out⟩
      have LO := Lib.hid (Load_bad2 A 8 cap l t s w2 (by omega) HBk.out (by unfold Wd.ok; omega))
      have n1 : (t != 32) = true := by simpa using ht32
      have n2 : (t != 64) = true := by simpa using ht64
      have n3 : (t == 64) = false := by simpa using ht64
      clear ht32 ht64
      clear HVL
      generalize wv (fun i => l.getD i 0) 8 = v at WO RW
      go_wp2_with (first
        | (go_at_call 24; refine WO.out.mono ?_; rintro e w3 ⟨rfl, rfl⟩)
        | (go_at_call 25; refine LO.out.mono ?_; rintro e w3 ⟨rfl, rfl⟩)
        | (go_at_call 26; refine RW.out.mono ?_; rintro e w3 ⟨rfl, rfl⟩)
        | (go_at_call 20; refine (AW.out _ (HT.out.below H2.out HT.out.size)).mono ?_; rintro e w5 ⟨rfl, h5⟩; have H5 := Lib.hid (H2.out.trans (h5.mono H2.out.size)); clear h5))
      go_ret
      exact ⟨rfl, H5.out⟩
  · have WB := Lib.hid (Word_bad A k cap w2 hk)
    have LB := Lib.hid (Load_bad1 A k cap t s w2 hk)
    have q1 : ((k : Int) != 1) = true := by simp; intro e; exact hk (.inl e)
    have q2 : ((k : Int) != 2) = true := by simp; intro e; exact hk (.inr (.inl e))
    have q3 : ((k : Int) != 4) = true := by simp; intro e; exact hk (.inr (.inr (.inl e)))
    have q4 : ((k : Int) != 8) = true := by simp; intro e; exact hk (.inr (.inr (.inr e)))
    clear hk
    go_wp2_with (first
      | (go_at_call 24; refine WB.out.mono ?_; rintro e w3 ⟨rfl, rfl⟩)
      | (go_at_call 25; refine LB.out.mono ?_; rintro e w3 ⟨rfl, rfl⟩)
      | (go_at_call 20; refine (AW.out _ (HT.out.below H2.out HT.out.size)).mono ?_; rintro e w5 ⟨rfl, h5⟩; have H5 := Lib.hid (H2.out.trans (h5.mono H2.out.size)); clear h5))
    go_ret
    exact ⟨rfl, H5.out⟩
set_option maxHeartbeats 4000000 in
set_option maxRecDepth 100000 in
theorem cb_2 (a : Nat) (ha : a < 18446744073709551616) (A : Option Addr) (k cap : Nat) (l : List Nat) (t : Int) (s : Bool) (w : World) (hT : Pw w) (hb : Byt w A k cap l) (hk20 : (k : Int) ≤ 20) :
    Calls Tryd.prog 7 #[.int .u64 a, .int .i64 2, .slice A k cap, .int .i64 t, .bool s] w fun e w' => e = .returned (.bool true) ∧ Below w.heap.size w w' := by
  have AW := Lib.hid awake6_any
  have HT := Lib.hid hT
  have HB := Lib.hid hb
  have Y1 : Hid (∀ w1 : World, Calls Tryd.prog 22 #[.int .u64 a, .int .i64 2] w1 (YPost w1.heap.size 2 (bys a 2) w1)) := Lib.hid (fun w1 => Bytes_ok a 2 w1 (by decide) ha)
  have Z1 : Hid (∀ w1 : World, Calls Tryd.prog 23 #[.int .u64 a, .int .i64 2] w1 (ZPost w1.heap.size 2 (bys a 2) w1)) := Lib.hid (fun w1 => RBytes_any 2 a w1 (by decide) (by decide) ha)
  obtain ⟨L, eL⟩ : ∃ L, L = bys a 2 := ⟨_, rfl⟩
  rw [← eL] at Y1 Z1
  clear hT hb eL ha
  go_enter Tryd.func7, Tryd.ntmps7
  go_wp2_with (first
    | (go_at_call 22; (with_reducible refine (Y1.out _).mono ?_); rintro e w1 hY; unfold YPost at hY; obtain ⟨g1, rfl, b1, k1, h1⟩ := hY; have B1 := Lib.hid b1; have H1 := Lib.hid h1; have c1 : (convert 40 9 (.slice (some ⟨g1, 0, none⟩) 2 2)).run Tryd.prog w1.drew = .ok (.string (str L)) w1.drew := conv_byt (show Byt w1.drew (some ⟨g1, 0, none⟩) 2 2 L from b1); clear b1 h1))
  refine wp_region_held_drew (S := (fun w' => (convert 40 9 (.slice (some ⟨g1, 0, none⟩) 2 2)).run Tryd.prog w' = .ok (.string (str L)) w')) (by kernel_rfl) c1 (fun hHeld => ?_)
  refine wpAnyH_take (i := 0) (oi := ?oi_163) (v := ?_) ?hi_163 (by kernel_rfl) ?hf_163 (by kernel_rfl) ?hQ_163 ?hy_163 (by assumption) ?_
  case hi_163 => simp only [List.getElem?_toArray, List.getElem?_cons_zero, List.getElem?_cons_succ]; rfl
  case hf_163 => kernel_rfl
  case hQ_163 => exact fun _ _ _ h => h
  case hy_163 =>
    refine Or.inl ⟨by rfl, ?_⟩
    intro W hSw
    have q1 := hSw
    go_simp
    try with_reducible rfl
  try simp only [Act.put, List.setIfInBounds_toArray, List.set_cons_zero, List.set_cons_succ]
  refine wpAnyH_take (i := 1) (oi := ?oi_164) (v := ?_) ?hi_164 (by kernel_rfl) ?hf_164 (by kernel_rfl) ?hQ_164 ?hy_164 (by assumption) ?_
  case hi_164 => simp only [List.getElem?_toArray, List.getElem?_cons_zero, List.getElem?_cons_succ]; rfl
  case hf_164 => kernel_rfl
  case hQ_164 => exact fun _ _ _ h => h
  case hy_164 =>
    refine Or.inl ⟨by rfl, ?_⟩
    intro W hSw
    have q1 := hSw
    go_simp
    try with_reducible rfl
  try simp only [Act.put, List.setIfInBounds_toArray, List.set_cons_zero, List.set_cons_succ]
  refine wpAnyH_take (i := 2) (oi := ?oi_165) (v := ?_) ?hi_165 (by kernel_rfl) ?hf_165 (by kernel_rfl) ?hQ_165 ?hy_165 (by assumption) ?_
  case hi_165 => simp only [List.getElem?_toArray, List.getElem?_cons_zero, List.getElem?_cons_succ]; rfl
  case hf_165 => kernel_rfl
  case hQ_165 => exact fun _ _ _ h => h
  case hy_165 =>
    refine Or.inl ⟨by rfl, ?_⟩
    intro W hSw
    have q1 := hSw
    go_simp
    try with_reducible rfl
  try simp only [Act.put, List.setIfInBounds_toArray, List.set_cons_zero, List.set_cons_succ]
  refine wpAnyH_take (i := 3) (oi := ?oi_166) (v := ?_) ?hi_166 (by kernel_rfl) ?hf_166 (by kernel_rfl) ?hQ_166 ?hy_166 (by assumption) ?_
  case hi_166 => simp only [List.getElem?_toArray, List.getElem?_cons_zero, List.getElem?_cons_succ]; rfl
  case hf_166 => kernel_rfl
  case hQ_166 => exact fun _ _ _ h => h
  case hy_166 =>
    refine Or.inl ⟨by rfl, ?_⟩
    intro W hSw
    have q1 := hSw
    go_simp
    try with_reducible rfl
  try simp only [Act.put, List.setIfInBounds_toArray, List.set_cons_zero, List.set_cons_succ]
  refine wpAnyH_take (i := 4) (oi := ?oi_167) (v := ?_) ?hi_167 (by kernel_rfl) ?hf_167 (by kernel_rfl) ?hQ_167 ?hy_167 (by assumption) ?_
  case hi_167 => simp only [List.getElem?_toArray, List.getElem?_cons_zero, List.getElem?_cons_succ]; rfl
  case hf_167 => kernel_rfl
  case hQ_167 => exact fun _ _ _ h => h
  case hy_167 =>
    refine Or.inl ⟨by rfl, ?_⟩
    intro W hSw
    have q1 := hSw
    go_simp
    try with_reducible rfl
  try simp only [Act.put, List.setIfInBounds_toArray, List.set_cons_zero, List.set_cons_succ]
  refine wpAnyH_take (i := 5) (oi := ?oi_168) (v := ?_) ?hi_168 (by kernel_rfl) ?hf_168 (by kernel_rfl) ?hQ_168 ?hy_168 (by assumption) ?_
  case hi_168 => simp only [List.getElem?_toArray, List.getElem?_cons_zero, List.getElem?_cons_succ]; rfl
  case hf_168 => kernel_rfl
  case hQ_168 => exact fun _ _ _ h => h
  case hy_168 =>
    refine Or.inl ⟨by rfl, ?_⟩
    intro W hSw
    have q1 := hSw
    go_simp
    try with_reducible rfl
  try simp only [Act.put, List.setIfInBounds_toArray, List.set_cons_zero, List.set_cons_succ]
  refine wpAnyH_ready (rs := [6]) (by kernel_rfl) (by simp) ?_
  refine AllReadyH.cons (o := ?oi_169) ?hi_169 (fun K hK => ?_) AllReadyH.nil
  case hi_169 => simp only [List.getElem?_toArray, List.getElem?_cons_zero, List.getElem?_cons_succ]; rfl
  go_simp
  (go_at_call 23
   (with_reducible refine (Z1.out _).mono ?_)
   rintro e w2 hZ
   unfold ZPost at hZ
   obtain ⟨g2, cp2, rfl, b2, hg2, h2⟩ := hZ
   have h3 : Below w1.heap.size w1 w2 := ⟨h2.os, h2.tape, h2.output, h2.size, h2.block⟩
   have H2 := Lib.hid (H1.out.trans (h3.mono H1.out.size))
   have c2 := conv_byt b2
   have c3 := conv_byt (B1.out.kept h3)
   clear b2 h2 h3)
  refine hK.out _ _ c3 (fun hHeld => ?_)
  clear hK K
  try simp only [Act.put, List.setIfInBounds_toArray, List.set_cons_zero, List.set_cons_succ]
  refine wpAnyH_ready (rs := [7]) (by kernel_rfl) (by simp) ?_
  refine AllReadyH.cons (o := ?oi_170) ?hi_170 (fun K hK => ?_) AllReadyH.nil
  case hi_170 => simp only [List.getElem?_toArray, List.getElem?_cons_zero, List.getElem?_cons_succ]; rfl
  go_simp
  refine hK.out _ _ c3 (fun hHeld => ?_)
  clear hK K
  try simp only [Act.put, List.setIfInBounds_toArray, List.set_cons_zero, List.set_cons_succ]
  refine wpAnyH_take (i := 8) (oi := ?oi_171) (v := ?_) ?hi_171 (by kernel_rfl) ?hf_171 (by kernel_rfl) ?hQ_171 ?hy_171 (by assumption) ?_
  case hi_171 => simp only [List.getElem?_toArray, List.getElem?_cons_zero, List.getElem?_cons_succ]; rfl
  case hf_171 => kernel_rfl
  case hQ_171 => exact fun _ _ _ h => h
  case hy_171 =>
    refine Or.inl ⟨by rfl, ?_⟩
    intro W hSw
    have q1 := hSw
    go_simp
    try with_reducible rfl
  try simp only [Act.put, List.setIfInBounds_toArray, List.set_cons_zero, List.set_cons_succ]
  refine wpAnyH_take (i := 9) (oi := ?oi_172) (v := ?_) ?hi_172 (by kernel_rfl) ?hf_172 (by kernel_rfl) ?hQ_172 ?hy_172 (by assumption) ?_
  case hi_172 => simp only [List.getElem?_toArray, List.getElem?_cons_zero, List.getElem?_cons_succ]; rfl
  case hf_172 => kernel_rfl
  case hQ_172 => exact fun _ _ _ h => h
  case hy_172 =>
    refine Or.inl ⟨by rfl, ?_⟩
    intro W hSw
    have q1 := hSw
    go_simp
    try with_reducible rfl
  try simp only [Act.put, List.setIfInBounds_toArray, List.set_cons_zero, List.set_cons_succ]
  refine wpAnyH_take (i := 10) (oi := ?oi_173) (v := ?_) ?hi_173 (by kernel_rfl) ?hf_173 (by kernel_rfl) ?hQ_173 ?hy_173 (by assumption) ?_
  case hi_173 => simp only [List.getElem?_toArray, List.getElem?_cons_zero, List.getElem?_cons_succ]; rfl
  case hf_173 => kernel_rfl
  case hQ_173 => exact fun _ _ _ h => h
  case hy_173 =>
    refine Or.inl ⟨by rfl, ?_⟩
    intro W hSw
    have q1 := hSw
    go_simp
    try with_reducible rfl
  try simp only [Act.put, List.setIfInBounds_toArray, List.set_cons_zero, List.set_cons_succ]
  refine wpAnyH_take (i := 11) (oi := ?oi_174) (v := ?_) ?hi_174 (by kernel_rfl) ?hf_174 (by kernel_rfl) ?hQ_174 ?hy_174 (by assumption) ?_
  case hi_174 => simp only [List.getElem?_toArray, List.getElem?_cons_zero, List.getElem?_cons_succ]; rfl
  case hf_174 => kernel_rfl
  case hQ_174 => exact fun _ _ _ h => h
  case hy_174 =>
    refine Or.inl ⟨by rfl, ?_⟩
    intro W hSw
    have q1 := hSw
    go_simp
    try with_reducible rfl
  try simp only [Act.put, List.setIfInBounds_toArray, List.set_cons_zero, List.set_cons_succ]
  refine wpAnyH_take (i := 12) (oi := ?oi_175) (v := ?_) ?hi_175 (by kernel_rfl) ?hf_175 (by kernel_rfl) ?hQ_175 ?hy_175 (by assumption) ?_
  case hi_175 => simp only [List.getElem?_toArray, List.getElem?_cons_zero, List.getElem?_cons_succ]; rfl
  case hf_175 => kernel_rfl
  case hQ_175 => exact fun _ _ _ h => h
  case hy_175 =>
    refine Or.inl ⟨by rfl, ?_⟩
    intro W hSw
    have q1 := hSw
    go_simp
    try with_reducible rfl
  try simp only [Act.put, List.setIfInBounds_toArray, List.set_cons_zero, List.set_cons_succ]
  refine wpAnyH_take (i := 13) (oi := ?oi_176) (v := ?_) ?hi_176 (by kernel_rfl) ?hf_176 (by kernel_rfl) ?hQ_176 ?hy_176 (by assumption) ?_
  case hi_176 => simp only [List.getElem?_toArray, List.getElem?_cons_zero, List.getElem?_cons_succ]; rfl
  case hf_176 => kernel_rfl
  case hQ_176 => exact fun _ _ _ h => h
  case hy_176 =>
    refine Or.inl ⟨by rfl, ?_⟩
    intro W hSw
    have q1 := hSw
    go_simp
    try with_reducible rfl
  try simp only [Act.put, List.setIfInBounds_toArray, List.set_cons_zero, List.set_cons_succ]
  refine wpAnyH_take (i := 14) (oi := ?oi_177) (v := ?_) ?hi_177 (by kernel_rfl) ?hf_177 (by kernel_rfl) ?hQ_177 ?hy_177 (by assumption) ?_
  case hi_177 => simp only [List.getElem?_toArray, List.getElem?_cons_zero, List.getElem?_cons_succ]; rfl
  case hf_177 => kernel_rfl
  case hQ_177 => exact fun _ _ _ h => h
  case hy_177 =>
    refine Or.inl ⟨by rfl, ?_⟩
    intro W hSw
    have q1 := hSw
    go_simp
    try with_reducible rfl
  try simp only [Act.put, List.setIfInBounds_toArray, List.set_cons_zero, List.set_cons_succ]
  refine wpAnyH_take (i := 15) (oi := ?oi_178) (v := ?_) ?hi_178 (by kernel_rfl) ?hf_178 (by kernel_rfl) ?hQ_178 ?hy_178 (by assumption) ?_
  case hi_178 => simp only [List.getElem?_toArray, List.getElem?_cons_zero, List.getElem?_cons_succ]; rfl
  case hf_178 => kernel_rfl
  case hQ_178 => exact fun _ _ _ h => h
  case hy_178 =>
    refine Or.inl ⟨by rfl, ?_⟩
    intro W hSw
    have q1 := hSw
    go_simp
    try with_reducible rfl
  try simp only [Act.put, List.setIfInBounds_toArray, List.set_cons_zero, List.set_cons_succ]
  refine wpAnyH_take (i := 16) (oi := ?oi_179) (v := ?_) ?hi_179 (by kernel_rfl) ?hf_179 (by kernel_rfl) ?hQ_179 ?hy_179 (by assumption) ?_
  case hi_179 => simp only [List.getElem?_toArray, List.getElem?_cons_zero, List.getElem?_cons_succ]; rfl
  case hf_179 => kernel_rfl
  case hQ_179 => exact fun _ _ _ h => h
  case hy_179 =>
    refine Or.inl ⟨by rfl, ?_⟩
    intro W hSw
    have q1 := hSw
    go_simp
    try with_reducible rfl
  try simp only [Act.put, List.setIfInBounds_toArray, List.set_cons_zero, List.set_cons_succ]
  refine wpAnyH_take (i := 17) (oi := ?oi_180) (v := ?_) ?hi_180 (by kernel_rfl) ?hf_180 (by kernel_rfl) ?hQ_180 ?hy_180 (by assumption) ?_
  case hi_180 => simp only [List.getElem?_toArray, List.getElem?_cons_zero, List.getElem?_cons_succ]; rfl
  case hf_180 => kernel_rfl
  case hQ_180 => exact fun _ _ _ h => h
  case hy_180 =>
    refine Or.inl ⟨by rfl, ?_⟩
    intro W hSw
    have q1 := hSw
    go_simp
    try with_reducible rfl
  try simp only [Act.put, List.setIfInBounds_toArray, List.set_cons_zero, List.set_cons_succ]
  refine wpAnyH_take (i := 18) (oi := ?oi_181) (v := undef) ?hi_181 (by kernel_rfl) ?hf_181 (by kernel_rfl) ?hQ_181 ?hy_181 (by assumption) ?_
  case hi_181 => simp only [List.getElem?_toArray, List.getElem?_cons_zero, List.getElem?_cons_succ]; rfl
  case hf_181 => kernel_rfl
  case hQ_181 => exact fun _ _ _ h => h
  case hy_181 => exact Or.inr ⟨by rfl, rfl⟩
  try simp only [Act.put, List.setIfInBounds_toArray, List.set_cons_zero, List.set_cons_succ]
  refine wpAnyH_take (i := 19) (oi := ?oi_182) (v := undef) ?hi_182 (by kernel_rfl) ?hf_182 (by kernel_rfl) ?hQ_182 ?hy_182 (by assumption) ?_
  case hi_182 => simp only [List.getElem?_toArray, List.getElem?_cons_zero, List.getElem?_cons_succ]; rfl
  case hf_182 => kernel_rfl
  case hQ_182 => exact fun _ _ _ h => h
  case hy_182 => exact Or.inr ⟨by rfl, rfl⟩
  try simp only [Act.put, List.setIfInBounds_toArray, List.set_cons_zero, List.set_cons_succ]
  refine wpAnyH_take (i := 20) (oi := ?oi_183) (v := undef) ?hi_183 (by kernel_rfl) ?hf_183 (by kernel_rfl) ?hQ_183 ?hy_183 (by assumption) ?_
  case hi_183 => simp only [List.getElem?_toArray, List.getElem?_cons_zero, List.getElem?_cons_succ]; rfl
  case hf_183 => kernel_rfl
  case hQ_183 => exact fun _ _ _ h => h
  case hy_183 => exact Or.inr ⟨by rfl, rfl⟩
  try simp only [Act.put, List.setIfInBounds_toArray, List.set_cons_zero, List.set_cons_succ]
  refine wpAnyH_take (i := 21) (oi := ?oi_184) (v := undef) ?hi_184 (by kernel_rfl) ?hf_184 (by kernel_rfl) ?hQ_184 ?hy_184 (by assumption) ?_
  case hi_184 => simp only [List.getElem?_toArray, List.getElem?_cons_zero, List.getElem?_cons_succ]; rfl
  case hf_184 => kernel_rfl
  case hQ_184 => exact fun _ _ _ h => h
  case hy_184 => exact Or.inr ⟨by rfl, rfl⟩
  try simp only [Act.put, List.setIfInBounds_toArray, List.set_cons_zero, List.set_cons_succ]
  refine wpAnyH_take (i := 22) (oi := ?oi_185) (v := undef) ?hi_185 (by kernel_rfl) ?hf_185 (by kernel_rfl) ?hQ_185 ?hy_185 (by assumption) ?_
  case hi_185 => simp only [List.getElem?_toArray, List.getElem?_cons_zero, List.getElem?_cons_succ]; rfl
  case hf_185 => kernel_rfl
  case hQ_185 => exact fun _ _ _ h => h
  case hy_185 => exact Or.inr ⟨by rfl, rfl⟩
  try simp only [Act.put, List.setIfInBounds_toArray, List.set_cons_zero, List.set_cons_succ]
  refine wpAnyH_take (i := 23) (oi := ?oi_186) (v := undef) ?hi_186 (by kernel_rfl) ?hf_186 (by kernel_rfl) ?hQ_186 ?hy_186 (by assumption) ?_
  case hi_186 => simp only [List.getElem?_toArray, List.getElem?_cons_zero, List.getElem?_cons_succ]; rfl
  case hf_186 => kernel_rfl
  case hQ_186 => exact fun _ _ _ h => h
  case hy_186 => exact Or.inr ⟨by rfl, rfl⟩
  try simp only [Act.put, List.setIfInBounds_toArray, List.set_cons_zero, List.set_cons_succ]
  refine wpAnyH_take (i := 24) (oi := ?oi_187) (v := undef) ?hi_187 (by kernel_rfl) ?hf_187 (by kernel_rfl) ?hQ_187 ?hy_187 (by assumption) ?_
  case hi_187 => simp only [List.getElem?_toArray, List.getElem?_cons_zero, List.getElem?_cons_succ]; rfl
  case hf_187 => kernel_rfl
  case hQ_187 => exact fun _ _ _ h => h
  case hy_187 => exact Or.inr ⟨by rfl, rfl⟩
  try simp only [Act.put, List.setIfInBounds_toArray, List.set_cons_zero, List.set_cons_succ]
  refine wpAnyH_take (i := 25) (oi := ?oi_188) (v := ?_) ?hi_188 (by kernel_rfl) ?hf_188 (by kernel_rfl) ?hQ_188 ?hy_188 (by assumption) ?_
  case hi_188 => simp only [List.getElem?_toArray, List.getElem?_cons_zero, List.getElem?_cons_succ]; rfl
  case hf_188 => kernel_rfl
  case hQ_188 => exact fun _ _ _ h => h
  case hy_188 =>
    refine Or.inl ⟨by rfl, ?_⟩
    intro W hSw
    have q1 := hSw
    go_simp
    try with_reducible rfl
  try simp only [Act.put, List.setIfInBounds_toArray, List.set_cons_zero, List.set_cons_succ]
  refine wpAnyH_take (i := 26) (oi := ?oi_189) (v := ?_) ?hi_189 (by kernel_rfl) ?hf_189 (by kernel_rfl) ?hQ_189 ?hy_189 (by assumption) ?_
  case hi_189 => simp only [List.getElem?_toArray, List.getElem?_cons_zero, List.getElem?_cons_succ]; rfl
  case hf_189 => kernel_rfl
  case hQ_189 => exact fun _ _ _ h => h
  case hy_189 =>
    refine Or.inl ⟨by rfl, ?_⟩
    intro W hSw
    have q1 := hSw
    go_simp
    try with_reducible rfl
  try simp only [Act.put, List.setIfInBounds_toArray, List.set_cons_zero, List.set_cons_succ]
  refine wpAnyH_done (by kernel_rfl) ?_ _
  clear hHeld c1 c2 c3
  clear B1 H1 Y1 Z1
  by_cases hk : cnt4 (k : Int)
  · have HBk := Lib.hid (HB.out.kept H2.out)
    have hk' : k = 1 ∨ k = 2 ∨ k = 4 ∨ k = 8 := by unfold cnt4 at hk; omega
    clear hk
    rcases hk' with rfl | rfl | rfl | rfl
    · have WO := Lib.hid (Word_ok A 1 cap l w2 (by omega) HBk.out)
      have RW := Lib.hid (RWord_any A 1 cap l w2 (by omega) (by omega) HBk.out)
      have hvl : wv (fun i => l.getD i 0) 1 < 18446744073709551616 := Nat.lt_of_lt_of_le (wv_lt _ 1 (fun i _ => byte_lt HBk.out.2.1 i)) (by decide)
      have HVL := Lib.hid hvl
      clear hvl
      by_cases ht32 : t = 32
      · subst ht32
        have LO := Lib.hid (Load_1_32 A cap l s w2 HBk.out)
        have RE : Hid (Calls Tryd.prog 21 #[.int .i64 8, .int .i64 32, .bool s, .int .u64 ((wv (fun i => l.getD i 0) 1 : Nat) : Int)] w2 fun e w' => e = .returned (.int .u64 ((exv 8 32 s (wv (fun i => l.getD i 0) 1) : Nat) : Int)) ∧ Below w2.heap.size w2 w') := Lib.hid (RExtend_any 8 32 s _ w2 (by omega) (by unfold Wd.ok; omega) HVL.out)
        clear HVL
        generalize exv 8 32 s (wv (fun i => l.getD i 0) 1) = x at LO RE
        generalize wv (fun i => l.getD i 0) 1 = v at WO RW RE
        go_wp2_with (first
          | (go_at_call 24; refine WO.out.mono ?_; rintro e w3 ⟨rfl, rfl⟩)
          | (go_at_call 25; refine LO.out.mono ?_; rintro e w3 ⟨rfl, rfl⟩)
          | (go_at_call 26; refine RW.out.mono ?_; rintro e w3 ⟨rfl, rfl⟩)
          | (go_at_call 21; refine RE.out.mono ?_; rintro e w4 ⟨rfl, h4⟩; have H4 := Lib.hid (H2.out.trans (h4.mono H2.out.size)); clear h4)
          | (go_at_call 20; refine (AW.out _ (HT.out.below H4.out HT.out.size)).mono ?_; rintro e w5 ⟨rfl, h5⟩; have H5 := Lib.hid (H4.out.trans (h5.mono H4.out.size)); clear h5))
        go_ret
        exact ⟨rfl, H5.out⟩
      by_cases ht64 : t = 64
      · subst ht64
        have LO := Lib.hid (Load_1_64 A cap l s w2 HBk.out)
        have RE : Hid (Calls Tryd.prog 21 #[.int .i64 8, .int .i64 64, .bool s, .int .u64 ((wv (fun i => l.getD i 0) 1 : Nat) : Int)] w2 fun e w' => e = .returned (.int .u64 ((exv 8 64 s (wv (fun i => l.getD i 0) 1) : Nat) : Int)) ∧ Below w2.heap.size w2 w') := Lib.hid (RExtend_any 8 64 s _ w2 (by omega) (by unfold Wd.ok; omega) HVL.out)
        clear HVL
        generalize exv 8 64 s (wv (fun i => l.getD i 0) 1) = x at LO RE
        generalize wv (fun i => l.getD i 0) 1 = v at WO RW RE
        go_wp2_with (first
          | (go_at_call 24; refine WO.out.mono ?_; rintro e w3 ⟨rfl, rfl⟩)
          | (go_at_call 25; refine LO.out.mono ?_; rintro e w3 ⟨rfl, rfl⟩)
          | (go_at_call 26; refine RW.out.mono ?_; rintro e w3 ⟨rfl, rfl⟩)
          | (go_at_call 21; refine RE.out.mono ?_; rintro e w4 ⟨rfl, h4⟩; have H4 := Lib.hid (H2.out.trans (h4.mono H2.out.size)); clear h4)
          | (go_at_call 20; refine (AW.out _ (HT.out.below H4.out HT.out.size)).mono ?_; rintro e w5 ⟨rfl, h5⟩; have H5 := Lib.hid (H4.out.trans (h5.mono H4.out.size)); clear h5))
        go_ret
        exact ⟨rfl, H5.out⟩
      have LO := Lib.hid (Load_bad2 A 1 cap l t s w2 (by omega) HBk.out (by unfold Wd.ok; omega))
      have n1 : (t != 32) = true := by simpa using ht32
      have n2 : (t != 64) = true := by simpa using ht64
      have n3 : (t == 64) = false := by simpa using ht64
      clear ht32 ht64
      clear HVL
      generalize wv (fun i => l.getD i 0) 1 = v at WO RW
      go_wp2_with (first
        | (go_at_call 24; refine WO.out.mono ?_; rintro e w3 ⟨rfl, rfl⟩)
        | (go_at_call 25; refine LO.out.mono ?_; rintro e w3 ⟨rfl, rfl⟩)
        | (go_at_call 26; refine RW.out.mono ?_; rintro e w3 ⟨rfl, rfl⟩)
        | (go_at_call 20; refine (AW.out _ (HT.out.below H2.out HT.out.size)).mono ?_; rintro e w5 ⟨rfl, h5⟩; have H5 := Lib.hid (H2.out.trans (h5.mono H2.out.size)); clear h5))
      go_ret
      exact ⟨rfl, H5.out⟩
    · have WO := Lib.hid (Word_ok A 2 cap l w2 (by omega) HBk.out)
      have RW := Lib.hid (RWord_any A 2 cap l w2 (by omega) (by omega) HBk.out)
      have hvl : wv (fun i => l.getD i 0) 2 < 18446744073709551616 := Nat.lt_of_lt_of_le (wv_lt _ 2 (fun i _ => byte_lt HBk.out.2.1 i)) (by decide)
      have HVL := Lib.hid hvl
      clear hvl
      by_cases ht32 : t = 32
      · subst ht32
        have LO := Lib.hid (Load_2_32 A cap l s w2 HBk.out)
        have RE : Hid (Calls Tryd.prog 21 #[.int .i64 16, .int .i64 32, .bool s, .int .u64 ((wv (fun i => l.getD i 0) 2 : Nat) : Int)] w2 fun e w' => e = .returned (.int .u64 ((exv 16 32 s (wv (fun i => l.getD i 0) 2) : Nat) : Int)) ∧ Below w2.heap.size w2 w') := Lib.hid (RExtend_any 16 32 s _ w2 (by omega) (by unfold Wd.ok; omega) HVL.out)
        clear HVL
        generalize exv 16 32 s (wv (fun i => l.getD i 0) 2) = x at LO RE
        generalize wv (fun i => l.getD i 0) 2 = v at WO RW RE
        go_wp2_with (first
          | (go_at_call 24; refine WO.out.mono ?_; rintro e w3 ⟨rfl, rfl⟩)
          | (go_at_call 25; refine LO.out.mono ?_; rintro e w3 ⟨rfl, rfl⟩)
          | (go_at_call 26; refine RW.out.mono ?_; rintro e w3 ⟨rfl, rfl⟩)
          | (go_at_call 21; refine RE.out.mono ?_; rintro e w4 ⟨rfl, h4⟩; have H4 := Lib.hid (H2.out.trans (h4.mono H2.out.size)); clear h4)
          | (go_at_call 20; refine (AW.out _ (HT.out.below H4.out HT.out.size)).mono ?_; rintro e w5 ⟨rfl, h5⟩; have H5 := Lib.hid (H4.out.trans (h5.mono H4.out.size)); clear h5))
        go_ret
        exact ⟨rfl, H5.out⟩
      by_cases ht64 : t = 64
      · subst ht64
        have LO := Lib.hid (Load_2_64 A cap l s w2 HBk.out)
        have RE : Hid (Calls Tryd.prog 21 #[.int .i64 16, .int .i64 64, .bool s, .int .u64 ((wv (fun i => l.getD i 0) 2 : Nat) : Int)] w2 fun e w' => e = .returned (.int .u64 ((exv 16 64 s (wv (fun i => l.getD i 0) 2) : Nat) : Int)) ∧ Below w2.heap.size w2 w') := Lib.hid (RExtend_any 16 64 s _ w2 (by omega) (by unfold Wd.ok; omega) HVL.out)
        clear HVL
        generalize exv 16 64 s (wv (fun i => l.getD i 0) 2) = x at LO RE
        generalize wv (fun i => l.getD i 0) 2 = v at WO RW RE
        go_wp2_with (first
          | (go_at_call 24; refine WO.out.mono ?_; rintro e w3 ⟨rfl, rfl⟩)
          | (go_at_call 25; refine LO.out.mono ?_; rintro e w3 ⟨rfl, rfl⟩)
          | (go_at_call 26; refine RW.out.mono ?_; rintro e w3 ⟨rfl, rfl⟩)
          | (go_at_call 21; refine RE.out.mono ?_; rintro e w4 ⟨rfl, h4⟩; have H4 := Lib.hid (H2.out.trans (h4.mono H2.out.size)); clear h4)
          | (go_at_call 20; refine (AW.out _ (HT.out.below H4.out HT.out.size)).mono ?_; rintro e w5 ⟨rfl, h5⟩; have H5 := Lib.hid (H4.out.trans (h5.mono H4.out.size)); clear h5))
        go_ret
        exact ⟨rfl, H5.out⟩
      have LO := Lib.hid (Load_bad2 A 2 cap l t s w2 (by omega) HBk.out (by unfold Wd.ok; omega))
      have n1 : (t != 32) = true := by simpa using ht32
      have n2 : (t != 64) = true := by simpa using ht64
      have n3 : (t == 64) = false := by simpa using ht64
      clear ht32 ht64
      clear HVL
      generalize wv (fun i => l.getD i 0) 2 = v at WO RW
      go_wp2_with (first
        | (go_at_call 24; refine WO.out.mono ?_; rintro e w3 ⟨rfl, rfl⟩)
        | (go_at_call 25; refine LO.out.mono ?_; rintro e w3 ⟨rfl, rfl⟩)
        | (go_at_call 26; refine RW.out.mono ?_; rintro e w3 ⟨rfl, rfl⟩)
        | (go_at_call 20; refine (AW.out _ (HT.out.below H2.out HT.out.size)).mono ?_; rintro e w5 ⟨rfl, h5⟩; have H5 := Lib.hid (H2.out.trans (h5.mono H2.out.size)); clear h5))
      go_ret
      exact ⟨rfl, H5.out⟩
    · have WO := Lib.hid (Word_ok A 4 cap l w2 (by omega) HBk.out)
      have RW := Lib.hid (RWord_any A 4 cap l w2 (by omega) (by omega) HBk.out)
      have hvl : wv (fun i => l.getD i 0) 4 < 18446744073709551616 := Nat.lt_of_lt_of_le (wv_lt _ 4 (fun i _ => byte_lt HBk.out.2.1 i)) (by decide)
      have HVL := Lib.hid hvl
      clear hvl
      by_cases ht32 : t = 32
      · subst ht32
        have LO := Lib.hid (Load_4_32 A cap l s w2 HBk.out)
        have RE : Hid (Calls Tryd.prog 21 #[.int .i64 32, .int .i64 32, .bool s, .int .u64 ((wv (fun i => l.getD i 0) 4 : Nat) : Int)] w2 fun e w' => e = .returned (.int .u64 ((exv 32 32 s (wv (fun i => l.getD i 0) 4) : Nat) : Int)) ∧ Below w2.heap.size w2 w') := Lib.hid (RExtend_any 32 32 s _ w2 (by omega) (by unfold Wd.ok; omega) HVL.out)
        clear HVL
        generalize exv 32 32 s (wv (fun i => l.getD i 0) 4) = x at LO RE
        generalize wv (fun i => l.getD i 0) 4 = v at WO RW RE
        go_wp2_with (first
          | (go_at_call 24; refine WO.out.mono ?_; rintro e w3 ⟨rfl, rfl⟩)
          | (go_at_call 25; refine LO.out.mono ?_; rintro e w3 ⟨rfl, rfl⟩)
          | (go_at_call 26; refine RW.out.mono ?_; rintro e w3 ⟨rfl, rfl⟩)
          | (go_at_call 21; refine RE.out.mono ?_; rintro e w4 ⟨rfl, h4⟩; have H4 := Lib.hid (H2.out.trans (h4.mono H2.out.size)); clear h4)
          | (go_at_call 20; refine (AW.out _ (HT.out.below H4.out HT.out.size)).mono ?_; rintro e w5 ⟨rfl, h5⟩; have H5 := Lib.hid (H4.out.trans (h5.mono H4.out.size)); clear h5))
        go_ret
        exact ⟨rfl, H5.out⟩
      by_cases ht64 : t = 64
      · subst ht64
        have LO := Lib.hid (Load_4_64 A cap l s w2 HBk.out)
        have RE : Hid (Calls Tryd.prog 21 #[.int .i64 32, .int .i64 64, .bool s, .int .u64 ((wv (fun i => l.getD i 0) 4 : Nat) : Int)] w2 fun e w' => e = .returned (.int .u64 ((exv 32 64 s (wv (fun i => l.getD i 0) 4) : Nat) : Int)) ∧ Below w2.heap.size w2 w') := Lib.hid (RExtend_any 32 64 s _ w2 (by omega) (by unfold Wd.ok; omega) HVL.out)
        clear HVL
        generalize exv 32 64 s (wv (fun i => l.getD i 0) 4) = x at LO RE
        generalize wv (fun i => l.getD i 0) 4 = v at WO RW RE
        go_wp2_with (first
          | (go_at_call 24; refine WO.out.mono ?_; rintro e w3 ⟨rfl, rfl⟩)
          | (go_at_call 25; refine LO.out.mono ?_; rintro e w3 ⟨rfl, rfl⟩)
          | (go_at_call 26; refine RW.out.mono ?_; rintro e w3 ⟨rfl, rfl⟩)
          | (go_at_call 21; refine RE.out.mono ?_; rintro e w4 ⟨rfl, h4⟩; have H4 := Lib.hid (H2.out.trans (h4.mono H2.out.size)); clear h4)
          | (go_at_call 20; refine (AW.out _ (HT.out.below H4.out HT.out.size)).mono ?_; rintro e w5 ⟨rfl, h5⟩; have H5 := Lib.hid (H4.out.trans (h5.mono H4.out.size)); clear h5))
        go_ret
        exact ⟨rfl, H5.out⟩
      have LO := Lib.hid (Load_bad2 A 4 cap l t s w2 (by omega) HBk.out (by unfold Wd.ok; omega))
      have n1 : (t != 32) = true := by simpa using ht32
      have n2 : (t != 64) = true := by simpa using ht64
      have n3 : (t == 64) = false := by simpa using ht64
      clear ht32 ht64
      clear HVL
      generalize wv (fun i => l.getD i 0) 4 = v at WO RW
      go_wp2_with (first
        | (go_at_call 24; refine WO.out.mono ?_; rintro e w3 ⟨rfl, rfl⟩)
        | (go_at_call 25; refine LO.out.mono ?_; rintro e w3 ⟨rfl, rfl⟩)
        | (go_at_call 26; refine RW.out.mono ?_; rintro e w3 ⟨rfl, rfl⟩)
        | (go_at_call 20; refine (AW.out _ (HT.out.below H2.out HT.out.size)).mono ?_; rintro e w5 ⟨rfl, h5⟩; have H5 := Lib.hid (H2.out.trans (h5.mono H2.out.size)); clear h5))
      go_ret
      exact ⟨rfl, H5.out⟩
    · have WO := Lib.hid (Word_ok A 8 cap l w2 (by omega) HBk.out)
      have RW := Lib.hid (RWord_any A 8 cap l w2 (by omega) (by omega) HBk.out)
      have hvl : wv (fun i => l.getD i 0) 8 < 18446744073709551616 := Nat.lt_of_lt_of_le (wv_lt _ 8 (fun i _ => byte_lt HBk.out.2.1 i)) (by decide)
      have HVL := Lib.hid hvl
      clear hvl
      by_cases ht64 : t = 64
      · subst ht64
        have LO := Lib.hid (Load_8_64 A cap l s w2 HBk.out)
        have hx : ∀ v : Nat, v < 18446744073709551616 → exv 64 64 s v = v := fun v hv => by
          simp [exv]
          omega
        rw [hx _ HVL.out] at LO
        clear hx HVL
        generalize wv (fun i => l.getD i 0) 8 = v at WO RW LO
        go_wp2_with (first
          | (go_at_call 24; refine WO.out.mono ?_; rintro e w3 ⟨rfl, rfl⟩)
          | (go_at_call 25; refine LO.out.mono ?_; rintro e w3 ⟨rfl, rfl⟩)
          | (go_at_call 26; refine RW.out.mono ?_; rintro e w3 ⟨rfl, rfl⟩)
          | (go_at_call 20; refine (AW.out _ (HT.out.below H2.out HT.out.size)).mono ?_; rintro e w5 ⟨rfl, h5⟩; have H5 := Lib.hid (H2.out.trans (h5.mono H2.out.size)); clear h5))
        go_ret
        exact ⟨rfl, H5.out⟩
      by_cases ht32 : t = 32
      · subst ht32
        have LO := Lib.hid (Load_bad8 A cap l s w2 HBk.out)
        clear HVL
        generalize wv (fun i => l.getD i 0) 8 = v at WO RW
        go_wp2_with (first
          | (go_at_call 24; refine WO.out.mono ?_; rintro e w3 ⟨rfl, rfl⟩)
          | (go_at_call 25; refine LO.out.mono ?_; rintro e w3 ⟨rfl, rfl⟩)
          | (go_at_call 26; refine RW.out.mono ?_; rintro e w3 ⟨rfl, rfl⟩)
          | (go_at_call 20; refine (AW.out _ (HT.out.below H2.out HT.out.size)).mono ?_; rintro e w5 ⟨rfl, h5⟩; have H5 := Lib.hid (H2.out.trans (h5.mono H2.out.size)); clear h5))
        go_ret
        exact ⟨rfl, H5.out⟩
      have LO := Lib.hid (Load_bad2 A 8 cap l t s w2 (by omega) HBk.out (by unfold Wd.ok; omega))
      have n1 : (t != 32) = true := by simpa using ht32
      have n2 : (t != 64) = true := by simpa using ht64
      have n3 : (t == 64) = false := by simpa using ht64
      clear ht32 ht64
      clear HVL
      generalize wv (fun i => l.getD i 0) 8 = v at WO RW
      go_wp2_with (first
        | (go_at_call 24; refine WO.out.mono ?_; rintro e w3 ⟨rfl, rfl⟩)
        | (go_at_call 25; refine LO.out.mono ?_; rintro e w3 ⟨rfl, rfl⟩)
        | (go_at_call 26; refine RW.out.mono ?_; rintro e w3 ⟨rfl, rfl⟩)
        | (go_at_call 20; refine (AW.out _ (HT.out.below H2.out HT.out.size)).mono ?_; rintro e w5 ⟨rfl, h5⟩; have H5 := Lib.hid (H2.out.trans (h5.mono H2.out.size)); clear h5))
      go_ret
      exact ⟨rfl, H5.out⟩
  · have WB := Lib.hid (Word_bad A k cap w2 hk)
    have LB := Lib.hid (Load_bad1 A k cap t s w2 hk)
    have q1 : ((k : Int) != 1) = true := by simp; intro e; exact hk (.inl e)
    have q2 : ((k : Int) != 2) = true := by simp; intro e; exact hk (.inr (.inl e))
    have q3 : ((k : Int) != 4) = true := by simp; intro e; exact hk (.inr (.inr (.inl e)))
    have q4 : ((k : Int) != 8) = true := by simp; intro e; exact hk (.inr (.inr (.inr e)))
    clear hk
    go_wp2_with (first
      | (go_at_call 24; refine WB.out.mono ?_; rintro e w3 ⟨rfl, rfl⟩)
      | (go_at_call 25; refine LB.out.mono ?_; rintro e w3 ⟨rfl, rfl⟩)
      | (go_at_call 20; refine (AW.out _ (HT.out.below H2.out HT.out.size)).mono ?_; rintro e w5 ⟨rfl, h5⟩; have H5 := Lib.hid (H2.out.trans (h5.mono H2.out.size)); clear h5))
    go_ret
    exact ⟨rfl, H5.out⟩
set_option maxHeartbeats 4000000 in
set_option maxRecDepth 100000 in
theorem cb_4 (a : Nat) (ha : a < 18446744073709551616) (A : Option Addr) (k cap : Nat) (l : List Nat) (t : Int) (s : Bool) (w : World) (hT : Pw w) (hb : Byt w A k cap l) (hk20 : (k : Int) ≤ 20) :
    Calls Tryd.prog 7 #[.int .u64 a, .int .i64 4, .slice A k cap, .int .i64 t, .bool s] w fun e w' => e = .returned (.bool true) ∧ Below w.heap.size w w' := by
  have AW := Lib.hid awake6_any
  have HT := Lib.hid hT
  have HB := Lib.hid hb
  have Y1 : Hid (∀ w1 : World, Calls Tryd.prog 22 #[.int .u64 a, .int .i64 4] w1 (YPost w1.heap.size 4 (bys a 4) w1)) := Lib.hid (fun w1 => Bytes_ok a 4 w1 (by decide) ha)
  have Z1 : Hid (∀ w1 : World, Calls Tryd.prog 23 #[.int .u64 a, .int .i64 4] w1 (ZPost w1.heap.size 4 (bys a 4) w1)) := Lib.hid (fun w1 => RBytes_any 4 a w1 (by decide) (by decide) ha)
  obtain ⟨L, eL⟩ : ∃ L, L = bys a 4 := ⟨_, rfl⟩
  rw [← eL] at Y1 Z1
  clear hT hb eL ha
  go_enter Tryd.func7, Tryd.ntmps7
  go_wp2_with (first
    | (go_at_call 22; (with_reducible refine (Y1.out _).mono ?_); rintro e w1 hY; unfold YPost at hY; obtain ⟨g1, rfl, b1, k1, h1⟩ := hY; have B1 := Lib.hid b1; have H1 := Lib.hid h1; have c1 : (convert 40 9 (.slice (some ⟨g1, 0, none⟩) 4 4)).run Tryd.prog w1.drew = .ok (.string (str L)) w1.drew := conv_byt (show Byt w1.drew (some ⟨g1, 0, none⟩) 4 4 L from b1); clear b1 h1))
  refine wp_region_held_drew (S := (fun w' => (convert 40 9 (.slice (some ⟨g1, 0, none⟩) 4 4)).run Tryd.prog w' = .ok (.string (str L)) w')) (by kernel_rfl) c1 (fun hHeld => ?_)
  refine wpAnyH_take (i := 0) (oi := ?oi_190) (v := ?_) ?hi_190 (by kernel_rfl) ?hf_190 (by kernel_rfl) ?hQ_190 ?hy_190 (by assumption) ?_
  case hi_190 => simp only [List.getElem?_toArray, List.getElem?_cons_zero, List.getElem?_cons_succ]; rfl
  case hf_190 => kernel_rfl
  case hQ_190 => exact fun _ _ _ h => h
  case hy_190 =>
    refine Or.inl ⟨by rfl, ?_⟩
    intro W hSw
    have q1 := hSw
    go_simp
    try with_reducible rfl
  try simp only [Act.put, List.setIfInBounds_toArray, List.set_cons_zero, List.set_cons_succ]
  refine wpAnyH_take (i := 1) (oi := ?oi_191) (v := ?_) ?hi_191 (by kernel_rfl) ?hf_191 (by kernel_rfl) ?hQ_191 ?hy_191 (by assumption) ?_
  case hi_191 => simp only [List.getElem?_toArray, List.getElem?_cons_zero, List.getElem?_cons_succ]; rfl
  case hf_191 => kernel_rfl
  case hQ_191 => exact fun _ _ _ h => h
  case hy_191 =>
    refine Or.inl ⟨by rfl, ?_⟩
    intro W hSw
    have q1 := hSw
    go_simp
    try with_reducible rfl
  try simp only [Act.put, List.setIfInBounds_toArray, List.set_cons_zero, List.set_cons_succ]
  refine wpAnyH_take (i := 2) (oi := ?oi_192) (v := ?_) ?hi_192 (by kernel_rfl) ?hf_192 (by kernel_rfl) ?hQ_192 ?hy_192 (by assumption) ?_
  case hi_192 => simp only [List.getElem?_toArray, List.getElem?_cons_zero, List.getElem?_cons_succ]; rfl
  case hf_192 => kernel_rfl
  case hQ_192 => exact fun _ _ _ h => h
  case hy_192 =>
    refine Or.inl ⟨by rfl, ?_⟩
    intro W hSw
    have q1 := hSw
    go_simp
    try with_reducible rfl
  try simp only [Act.put, List.setIfInBounds_toArray, List.set_cons_zero, List.set_cons_succ]
  refine wpAnyH_take (i := 3) (oi := ?oi_193) (v := ?_) ?hi_193 (by kernel_rfl) ?hf_193 (by kernel_rfl) ?hQ_193 ?hy_193 (by assumption) ?_
  case hi_193 => simp only [List.getElem?_toArray, List.getElem?_cons_zero, List.getElem?_cons_succ]; rfl
  case hf_193 => kernel_rfl
  case hQ_193 => exact fun _ _ _ h => h
  case hy_193 =>
    refine Or.inl ⟨by rfl, ?_⟩
    intro W hSw
    have q1 := hSw
    go_simp
    try with_reducible rfl
  try simp only [Act.put, List.setIfInBounds_toArray, List.set_cons_zero, List.set_cons_succ]
  refine wpAnyH_take (i := 4) (oi := ?oi_194) (v := ?_) ?hi_194 (by kernel_rfl) ?hf_194 (by kernel_rfl) ?hQ_194 ?hy_194 (by assumption) ?_
  case hi_194 => simp only [List.getElem?_toArray, List.getElem?_cons_zero, List.getElem?_cons_succ]; rfl
  case hf_194 => kernel_rfl
  case hQ_194 => exact fun _ _ _ h => h
  case hy_194 =>
    refine Or.inl ⟨by rfl, ?_⟩
    intro W hSw
    have q1 := hSw
    go_simp
    try with_reducible rfl
  try simp only [Act.put, List.setIfInBounds_toArray, List.set_cons_zero, List.set_cons_succ]
  refine wpAnyH_take (i := 5) (oi := ?oi_195) (v := ?_) ?hi_195 (by kernel_rfl) ?hf_195 (by kernel_rfl) ?hQ_195 ?hy_195 (by assumption) ?_
  case hi_195 => simp only [List.getElem?_toArray, List.getElem?_cons_zero, List.getElem?_cons_succ]; rfl
  case hf_195 => kernel_rfl
  case hQ_195 => exact fun _ _ _ h => h
  case hy_195 =>
    refine Or.inl ⟨by rfl, ?_⟩
    intro W hSw
    have q1 := hSw
    go_simp
    try with_reducible rfl
  try simp only [Act.put, List.setIfInBounds_toArray, List.set_cons_zero, List.set_cons_succ]
  refine wpAnyH_ready (rs := [6]) (by kernel_rfl) (by simp) ?_
  refine AllReadyH.cons (o := ?oi_196) ?hi_196 (fun K hK => ?_) AllReadyH.nil
  case hi_196 => simp only [List.getElem?_toArray, List.getElem?_cons_zero, List.getElem?_cons_succ]; rfl
  go_simp
  (go_at_call 23
   (with_reducible refine (Z1.out _).mono ?_)
   rintro e w2 hZ
   unfold ZPost at hZ
   obtain ⟨g2, cp2, rfl, b2, hg2, h2⟩ := hZ
   have h3 : Below w1.heap.size w1 w2 := ⟨h2.os, h2.tape, h2.output, h2.size, h2.block⟩
   have H2 := Lib.hid (H1.out.trans (h3.mono H1.out.size))
   have c2 := conv_byt b2
   have c3 := conv_byt (B1.out.kept h3)
   clear b2 h2 h3)
  refine hK.out _ _ c3 (fun hHeld => ?_)
  clear hK K
  try simp only [Act.put, List.setIfInBounds_toArray, List.set_cons_zero, List.set_cons_succ]
  refine wpAnyH_ready (rs := [7]) (by kernel_rfl) (by simp) ?_
  refine AllReadyH.cons (o := ?oi_197) ?hi_197 (fun K hK => ?_) AllReadyH.nil
  case hi_197 => simp only [List.getElem?_toArray, List.getElem?_cons_zero, List.getElem?_cons_succ]; rfl
  go_simp
  refine hK.out _ _ c3 (fun hHeld => ?_)
  clear hK K
  try simp only [Act.put, List.setIfInBounds_toArray, List.set_cons_zero, List.set_cons_succ]
  refine wpAnyH_take (i := 8) (oi := ?oi_198) (v := ?_) ?hi_198 (by kernel_rfl) ?hf_198 (by kernel_rfl) ?hQ_198 ?hy_198 (by assumption) ?_
  case hi_198 => simp only [List.getElem?_toArray, List.getElem?_cons_zero, List.getElem?_cons_succ]; rfl
  case hf_198 => kernel_rfl
  case hQ_198 => exact fun _ _ _ h => h
  case hy_198 =>
    refine Or.inl ⟨by rfl, ?_⟩
    intro W hSw
    have q1 := hSw
    go_simp
    try with_reducible rfl
  try simp only [Act.put, List.setIfInBounds_toArray, List.set_cons_zero, List.set_cons_succ]
  refine wpAnyH_take (i := 9) (oi := ?oi_199) (v := ?_) ?hi_199 (by kernel_rfl) ?hf_199 (by kernel_rfl) ?hQ_199 ?hy_199 (by assumption) ?_
  case hi_199 => simp only [List.getElem?_toArray, List.getElem?_cons_zero, List.getElem?_cons_succ]; rfl
  case hf_199 => kernel_rfl
  case hQ_199 => exact fun _ _ _ h => h
  case hy_199 =>
    refine Or.inl ⟨by rfl, ?_⟩
    intro W hSw
    have q1 := hSw
    go_simp
    try with_reducible rfl
  try simp only [Act.put, List.setIfInBounds_toArray, List.set_cons_zero, List.set_cons_succ]
  refine wpAnyH_take (i := 10) (oi := ?oi_200) (v := ?_) ?hi_200 (by kernel_rfl) ?hf_200 (by kernel_rfl) ?hQ_200 ?hy_200 (by assumption) ?_
  case hi_200 => simp only [List.getElem?_toArray, List.getElem?_cons_zero, List.getElem?_cons_succ]; rfl
  case hf_200 => kernel_rfl
  case hQ_200 => exact fun _ _ _ h => h
  case hy_200 =>
    refine Or.inl ⟨by rfl, ?_⟩
    intro W hSw
    have q1 := hSw
    go_simp
    try with_reducible rfl
  try simp only [Act.put, List.setIfInBounds_toArray, List.set_cons_zero, List.set_cons_succ]
  refine wpAnyH_take (i := 11) (oi := ?oi_201) (v := ?_) ?hi_201 (by kernel_rfl) ?hf_201 (by kernel_rfl) ?hQ_201 ?hy_201 (by assumption) ?_
  case hi_201 => simp only [List.getElem?_toArray, List.getElem?_cons_zero, List.getElem?_cons_succ]; rfl
  case hf_201 => kernel_rfl
  case hQ_201 => exact fun _ _ _ h => h
  case hy_201 =>
    refine Or.inl ⟨by rfl, ?_⟩
    intro W hSw
    have q1 := hSw
    go_simp
    try with_reducible rfl
  try simp only [Act.put, List.setIfInBounds_toArray, List.set_cons_zero, List.set_cons_succ]
  refine wpAnyH_take (i := 12) (oi := ?oi_202) (v := ?_) ?hi_202 (by kernel_rfl) ?hf_202 (by kernel_rfl) ?hQ_202 ?hy_202 (by assumption) ?_
  case hi_202 => simp only [List.getElem?_toArray, List.getElem?_cons_zero, List.getElem?_cons_succ]; rfl
  case hf_202 => kernel_rfl
  case hQ_202 => exact fun _ _ _ h => h
  case hy_202 =>
    refine Or.inl ⟨by rfl, ?_⟩
    intro W hSw
    have q1 := hSw
    go_simp
    try with_reducible rfl
  try simp only [Act.put, List.setIfInBounds_toArray, List.set_cons_zero, List.set_cons_succ]
  refine wpAnyH_take (i := 13) (oi := ?oi_203) (v := ?_) ?hi_203 (by kernel_rfl) ?hf_203 (by kernel_rfl) ?hQ_203 ?hy_203 (by assumption) ?_
  case hi_203 => simp only [List.getElem?_toArray, List.getElem?_cons_zero, List.getElem?_cons_succ]; rfl
  case hf_203 => kernel_rfl
  case hQ_203 => exact fun _ _ _ h => h
  case hy_203 =>
    refine Or.inl ⟨by rfl, ?_⟩
    intro W hSw
    have q1 := hSw
    go_simp
    try with_reducible rfl
  try simp only [Act.put, List.setIfInBounds_toArray, List.set_cons_zero, List.set_cons_succ]
  refine wpAnyH_take (i := 14) (oi := ?oi_204) (v := ?_) ?hi_204 (by kernel_rfl) ?hf_204 (by kernel_rfl) ?hQ_204 ?hy_204 (by assumption) ?_
  case hi_204 => simp only [List.getElem?_toArray, List.getElem?_cons_zero, List.getElem?_cons_succ]; rfl
  case hf_204 => kernel_rfl
  case hQ_204 => exact fun _ _ _ h => h
  case hy_204 =>
    refine Or.inl ⟨by rfl, ?_⟩
    intro W hSw
    have q1 := hSw
    go_simp
    try with_reducible rfl
  try simp only [Act.put, List.setIfInBounds_toArray, List.set_cons_zero, List.set_cons_succ]
  refine wpAnyH_take (i := 15) (oi := ?oi_205) (v := ?_) ?hi_205 (by kernel_rfl) ?hf_205 (by kernel_rfl) ?hQ_205 ?hy_205 (by assumption) ?_
  case hi_205 => simp only [List.getElem?_toArray, List.getElem?_cons_zero, List.getElem?_cons_succ]; rfl
  case hf_205 => kernel_rfl
  case hQ_205 => exact fun _ _ _ h => h
  case hy_205 =>
    refine Or.inl ⟨by rfl, ?_⟩
    intro W hSw
    have q1 := hSw
    go_simp
    try with_reducible rfl
  try simp only [Act.put, List.setIfInBounds_toArray, List.set_cons_zero, List.set_cons_succ]
  refine wpAnyH_take (i := 16) (oi := ?oi_206) (v := ?_) ?hi_206 (by kernel_rfl) ?hf_206 (by kernel_rfl) ?hQ_206 ?hy_206 (by assumption) ?_
  case hi_206 => simp only [List.getElem?_toArray, List.getElem?_cons_zero, List.getElem?_cons_succ]; rfl
  case hf_206 => kernel_rfl
  case hQ_206 => exact fun _ _ _ h => h
  case hy_206 =>
    refine Or.inl ⟨by rfl, ?_⟩
    intro W hSw
    have q1 := hSw
    go_simp
    try with_reducible rfl
  try simp only [Act.put, List.setIfInBounds_toArray, List.set_cons_zero, List.set_cons_succ]
  refine wpAnyH_take (i := 17) (oi := ?oi_207) (v := ?_) ?hi_207 (by kernel_rfl) ?hf_207 (by kernel_rfl) ?hQ_207 ?hy_207 (by assumption) ?_
  case hi_207 => simp only [List.getElem?_toArray, List.getElem?_cons_zero, List.getElem?_cons_succ]; rfl
  case hf_207 => kernel_rfl
  case hQ_207 => exact fun _ _ _ h => h
  case hy_207 =>
    refine Or.inl ⟨by rfl, ?_⟩
    intro W hSw
    have q1 := hSw
    go_simp
    try with_reducible rfl
  try simp only [Act.put, List.setIfInBounds_toArray, List.set_cons_zero, List.set_cons_succ]
  refine wpAnyH_take (i := 18) (oi := ?oi_208) (v := undef) ?hi_208 (by kernel_rfl) ?hf_208 (by kernel_rfl) ?hQ_208 ?hy_208 (by assumption) ?_
  case hi_208 => simp only [List.getElem?_toArray, List.getElem?_cons_zero, List.getElem?_cons_succ]; rfl
  case hf_208 => kernel_rfl
  case hQ_208 => exact fun _ _ _ h => h
  case hy_208 => exact Or.inr ⟨by rfl, rfl⟩
  try simp only [Act.put, List.setIfInBounds_toArray, List.set_cons_zero, List.set_cons_succ]
  refine wpAnyH_take (i := 19) (oi := ?oi_209) (v := undef) ?hi_209 (by kernel_rfl) ?hf_209 (by kernel_rfl) ?hQ_209 ?hy_209 (by assumption) ?_
  case hi_209 => simp only [List.getElem?_toArray, List.getElem?_cons_zero, List.getElem?_cons_succ]; rfl
  case hf_209 => kernel_rfl
  case hQ_209 => exact fun _ _ _ h => h
  case hy_209 => exact Or.inr ⟨by rfl, rfl⟩
  try simp only [Act.put, List.setIfInBounds_toArray, List.set_cons_zero, List.set_cons_succ]
  refine wpAnyH_take (i := 20) (oi := ?oi_210) (v := undef) ?hi_210 (by kernel_rfl) ?hf_210 (by kernel_rfl) ?hQ_210 ?hy_210 (by assumption) ?_
  case hi_210 => simp only [List.getElem?_toArray, List.getElem?_cons_zero, List.getElem?_cons_succ]; rfl
  case hf_210 => kernel_rfl
  case hQ_210 => exact fun _ _ _ h => h
  case hy_210 => exact Or.inr ⟨by rfl, rfl⟩
  try simp only [Act.put, List.setIfInBounds_toArray, List.set_cons_zero, List.set_cons_succ]
  refine wpAnyH_take (i := 21) (oi := ?oi_211) (v := undef) ?hi_211 (by kernel_rfl) ?hf_211 (by kernel_rfl) ?hQ_211 ?hy_211 (by assumption) ?_
  case hi_211 => simp only [List.getElem?_toArray, List.getElem?_cons_zero, List.getElem?_cons_succ]; rfl
  case hf_211 => kernel_rfl
  case hQ_211 => exact fun _ _ _ h => h
  case hy_211 => exact Or.inr ⟨by rfl, rfl⟩
  try simp only [Act.put, List.setIfInBounds_toArray, List.set_cons_zero, List.set_cons_succ]
  refine wpAnyH_take (i := 22) (oi := ?oi_212) (v := undef) ?hi_212 (by kernel_rfl) ?hf_212 (by kernel_rfl) ?hQ_212 ?hy_212 (by assumption) ?_
  case hi_212 => simp only [List.getElem?_toArray, List.getElem?_cons_zero, List.getElem?_cons_succ]; rfl
  case hf_212 => kernel_rfl
  case hQ_212 => exact fun _ _ _ h => h
  case hy_212 => exact Or.inr ⟨by rfl, rfl⟩
  try simp only [Act.put, List.setIfInBounds_toArray, List.set_cons_zero, List.set_cons_succ]
  refine wpAnyH_take (i := 23) (oi := ?oi_213) (v := undef) ?hi_213 (by kernel_rfl) ?hf_213 (by kernel_rfl) ?hQ_213 ?hy_213 (by assumption) ?_
  case hi_213 => simp only [List.getElem?_toArray, List.getElem?_cons_zero, List.getElem?_cons_succ]; rfl
  case hf_213 => kernel_rfl
  case hQ_213 => exact fun _ _ _ h => h
  case hy_213 => exact Or.inr ⟨by rfl, rfl⟩
  try simp only [Act.put, List.setIfInBounds_toArray, List.set_cons_zero, List.set_cons_succ]
  refine wpAnyH_take (i := 24) (oi := ?oi_214) (v := undef) ?hi_214 (by kernel_rfl) ?hf_214 (by kernel_rfl) ?hQ_214 ?hy_214 (by assumption) ?_
  case hi_214 => simp only [List.getElem?_toArray, List.getElem?_cons_zero, List.getElem?_cons_succ]; rfl
  case hf_214 => kernel_rfl
  case hQ_214 => exact fun _ _ _ h => h
  case hy_214 => exact Or.inr ⟨by rfl, rfl⟩
  try simp only [Act.put, List.setIfInBounds_toArray, List.set_cons_zero, List.set_cons_succ]
  refine wpAnyH_take (i := 25) (oi := ?oi_215) (v := ?_) ?hi_215 (by kernel_rfl) ?hf_215 (by kernel_rfl) ?hQ_215 ?hy_215 (by assumption) ?_
  case hi_215 => simp only [List.getElem?_toArray, List.getElem?_cons_zero, List.getElem?_cons_succ]; rfl
  case hf_215 => kernel_rfl
  case hQ_215 => exact fun _ _ _ h => h
  case hy_215 =>
    refine Or.inl ⟨by rfl, ?_⟩
    intro W hSw
    have q1 := hSw
    go_simp
    try with_reducible rfl
  try simp only [Act.put, List.setIfInBounds_toArray, List.set_cons_zero, List.set_cons_succ]
  refine wpAnyH_take (i := 26) (oi := ?oi_216) (v := ?_) ?hi_216 (by kernel_rfl) ?hf_216 (by kernel_rfl) ?hQ_216 ?hy_216 (by assumption) ?_
  case hi_216 => simp only [List.getElem?_toArray, List.getElem?_cons_zero, List.getElem?_cons_succ]; rfl
  case hf_216 => kernel_rfl
  case hQ_216 => exact fun _ _ _ h => h
  case hy_216 =>
    refine Or.inl ⟨by rfl, ?_⟩
    intro W hSw
    have q1 := hSw
    go_simp
    try with_reducible rfl
  try simp only [Act.put, List.setIfInBounds_toArray, List.set_cons_zero, List.set_cons_succ]
  refine wpAnyH_done (by kernel_rfl) ?_ _
  clear hHeld c1 c2 c3
  clear B1 H1 Y1 Z1
  by_cases hk : cnt4 (k : Int)
  · have HBk := Lib.hid (HB.out.kept H2.out)
    have hk' : k = 1 ∨ k = 2 ∨ k = 4 ∨ k = 8 := by unfold cnt4 at hk; omega
    clear hk
    rcases hk' with rfl | rfl | rfl | rfl
    · have WO := Lib.hid (Word_ok A 1 cap l w2 (by omega) HBk.out)
      have RW := Lib.hid (RWord_any A 1 cap l w2 (by omega) (by omega) HBk.out)
      have hvl : wv (fun i => l.getD i 0) 1 < 18446744073709551616 := Nat.lt_of_lt_of_le (wv_lt _ 1 (fun i _ => byte_lt HBk.out.2.1 i)) (by decide)
      have HVL := Lib.hid hvl
      clear hvl
      by_cases ht32 : t = 32
      · subst ht32
        have LO := Lib.hid (Load_1_32 A cap l s w2 HBk.out)
        have RE : Hid (Calls Tryd.prog 21 #[.int .i64 8, .int .i64 32, .bool s, .int .u64 ((wv (fun i => l.getD i 0) 1 : Nat) : Int)] w2 fun e w' => e = .returned (.int .u64 ((exv 8 32 s (wv (fun i => l.getD i 0) 1) : Nat) : Int)) ∧ Below w2.heap.size w2 w') := Lib.hid (RExtend_any 8 32 s _ w2 (by omega) (by unfold Wd.ok; omega) HVL.out)
        clear HVL
        generalize exv 8 32 s (wv (fun i => l.getD i 0) 1) = x at LO RE
        generalize wv (fun i => l.getD i 0) 1 = v at WO RW RE
        go_wp2_with (first
          | (go_at_call 24; refine WO.out.mono ?_; rintro e w3 ⟨rfl, rfl⟩)
          | (go_at_call 25; refine LO.out.mono ?_; rintro e w3 ⟨rfl, rfl⟩)
          | (go_at_call 26; refine RW.out.mono ?_; rintro e w3 ⟨rfl, rfl⟩)
          | (go_at_call 21; refine RE.out.mono ?_; rintro e w4 ⟨rfl, h4⟩; have H4 := Lib.hid (H2.out.trans (h4.mono H2.out.size)); clear h4)
          | (go_at_call 20; refine (AW.out _ (HT.out.below H4.out HT.out.size)).mono ?_; rintro e w5 ⟨rfl, h5⟩; have H5 := Lib.hid (H4.out.trans (h5.mono H4.out.size)); clear h5))
        go_ret
        exact ⟨rfl, H5.out⟩
      by_cases ht64 : t = 64
      · subst ht64
        have LO := Lib.hid (Load_1_64 A cap l s w2 HBk.out)
        have RE : Hid (Calls Tryd.prog 21 #[.int .i64 8, .int .i64 64, .bool s, .int .u64 ((wv (fun i => l.getD i 0) 1 : Nat) : Int)] w2 fun e w' => e = .returned (.int .u64 ((exv 8 64 s (wv (fun i => l.getD i 0) 1) : Nat) : Int)) ∧ Below w2.heap.size w2 w') := Lib.hid (RExtend_any 8 64 s _ w2 (by omega) (by unfold Wd.ok; omega) HVL.out)
        clear HVL
        generalize exv 8 64 s (wv (fun i => l.getD i 0) 1) = x at LO RE
        generalize wv (fun i => l.getD i 0) 1 = v at WO RW RE
        go_wp2_with (first
          | (go_at_call 24; refine WO.out.mono ?_; rintro e w3 ⟨rfl, rfl⟩)
          | (go_at_call 25; refine LO.out.mono ?_; rintro e w3 ⟨rfl, rfl⟩)
          | (go_at_call 26; refine RW.out.mono ?_; rintro e w3 ⟨rfl, rfl⟩)
          | (go_at_call 21; refine RE.out.mono ?_; rintro e w4 ⟨rfl, h4⟩; have H4 := Lib.hid (H2.out.trans (h4.mono H2.out.size)); clear h4)
          | (go_at_call 20; refine (AW.out _ (HT.out.below H4.out HT.out.size)).mono ?_; rintro e w5 ⟨rfl, h5⟩; have H5 := Lib.hid (H4.out.trans (h5.mono H4.out.size)); clear h5))
        go_ret
        exact ⟨rfl, H5.out⟩
      have LO := Lib.hid (Load_bad2 A 1 cap l t s w2 (by omega) HBk.out (by unfold Wd.ok; omega))
      have n1 : (t != 32) = true := by simpa using ht32
      have n2 : (t != 64) = true := by simpa using ht64
      have n3 : (t == 64) = false := by simpa using ht64
      clear ht32 ht64
      clear HVL
      generalize wv (fun i => l.getD i 0) 1 = v at WO RW
      go_wp2_with (first
        | (go_at_call 24; refine WO.out.mono ?_; rintro e w3 ⟨rfl, rfl⟩)
        | (go_at_call 25; refine LO.out.mono ?_; rintro e w3 ⟨rfl, rfl⟩)
        | (go_at_call 26; refine RW.out.mono ?_; rintro e w3 ⟨rfl, rfl⟩)
        | (go_at_call 20; refine (AW.out _ (HT.out.below H2.out HT.out.size)).mono ?_; rintro e w5 ⟨rfl, h5⟩; have H5 := Lib.hid (H2.out.trans (h5.mono H2.out.size)); clear h5))
      go_ret
      exact ⟨rfl, H5.out⟩
    · have WO := Lib.hid (Word_ok A 2 cap l w2 (by omega) HBk.out)
      have RW := Lib.hid (RWord_any A 2 cap l w2 (by omega) (by omega) HBk.out)
      have hvl : wv (fun i => l.getD i 0) 2 < 18446744073709551616 := Nat.lt_of_lt_of_le (wv_lt _ 2 (fun i _ => byte_lt HBk.out.2.1 i)) (by decide)
      have HVL := Lib.hid hvl
      clear hvl
      by_cases ht32 : t = 32
      · subst ht32
        have LO := Lib.hid (Load_2_32 A cap l s w2 HBk.out)
        have RE : Hid (Calls Tryd.prog 21 #[.int .i64 16, .int .i64 32, .bool s, .int .u64 ((wv (fun i => l.getD i 0) 2 : Nat) : Int)] w2 fun e w' => e = .returned (.int .u64 ((exv 16 32 s (wv (fun i => l.getD i 0) 2) : Nat) : Int)) ∧ Below w2.heap.size w2 w') := Lib.hid (RExtend_any 16 32 s _ w2 (by omega) (by unfold Wd.ok; omega) HVL.out)
        clear HVL
        generalize exv 16 32 s (wv (fun i => l.getD i 0) 2) = x at LO RE
        generalize wv (fun i => l.getD i 0) 2 = v at WO RW RE
        go_wp2_with (first
          | (go_at_call 24; refine WO.out.mono ?_; rintro e w3 ⟨rfl, rfl⟩)
          | (go_at_call 25; refine LO.out.mono ?_; rintro e w3 ⟨rfl, rfl⟩)
          | (go_at_call 26; refine RW.out.mono ?_; rintro e w3 ⟨rfl, rfl⟩)
          | (go_at_call 21; refine RE.out.mono ?_; rintro e w4 ⟨rfl, h4⟩; have H4 := Lib.hid (H2.out.trans (h4.mono H2.out.size)); clear h4)
          | (go_at_call 20; refine (AW.out _ (HT.out.below H4.out HT.out.size)).mono ?_; rintro e w5 ⟨rfl, h5⟩; have H5 := Lib.hid (H4.out.trans (h5.mono H4.out.size)); clear h5))
        go_ret
        exact ⟨rfl, H5.out⟩
      by_cases ht64 : t = 64
      · subst ht64
        have LO := Lib.hid (Load_2_64 A cap l s w2 HBk.out)
        have RE : Hid (Calls Tryd.prog 21 #[.int .i64 16, .int .i64 64, .bool s, .int .u64 ((wv (fun i => l.getD i 0) 2 : Nat) : Int)] w2 fun e w' => e = .returned (.int .u64 ((exv 16 64 s (wv (fun i => l.getD i 0) 2) : Nat) : Int)) ∧ Below w2.heap.size w2 w') := Lib.hid (RExtend_any 16 64 s _ w2 (by omega) (by unfold Wd.ok; omega) HVL.out)
        clear HVL
        generalize exv 16 64 s (wv (fun i => l.getD i 0) 2) = x at LO RE
        generalize wv (fun i => l.getD i 0) 2 = v at WO RW RE
        go_wp2_with (first
          | (go_at_call 24; refine WO.out.mono ?_; rintro e w3 ⟨rfl, rfl⟩)
          | (go_at_call 25; refine LO.out.mono ?_; rintro e w3 ⟨rfl, rfl⟩)
          | (go_at_call 26; refine RW.out.mono ?_; rintro e w3 ⟨rfl, rfl⟩)
          | (go_at_call 21; refine RE.out.mono ?_; rintro e w4 ⟨rfl, h4⟩; have H4 := Lib.hid (H2.out.trans (h4.mono H2.out.size)); clear h4)
          | (go_at_call 20; refine (AW.out _ (HT.out.below H4.out HT.out.size)).mono ?_; rintro e w5 ⟨rfl, h5⟩; have H5 := Lib.hid (H4.out.trans (h5.mono H4.out.size)); clear h5))
        go_ret
        exact ⟨rfl, H5.out⟩
      have LO := Lib.hid (Load_bad2 A 2 cap l t s w2 (by omega) HBk.out (by unfold Wd.ok; omega))
      have n1 : (t != 32) = true := by simpa using ht32
      have n2 : (t != 64) = true := by simpa using ht64
      have n3 : (t == 64) = false := by simpa using ht64
      clear ht32 ht64
      clear HVL
      generalize wv (fun i => l.getD i 0) 2 = v at WO RW
      go_wp2_with (first
        | (go_at_call 24; refine WO.out.mono ?_; rintro e w3 ⟨rfl, rfl⟩)
        | (go_at_call 25; refine LO.out.mono ?_; rintro e w3 ⟨rfl, rfl⟩)
        | (go_at_call 26; refine RW.out.mono ?_; rintro e w3 ⟨rfl, rfl⟩)
        | (go_at_call 20; refine (AW.out _ (HT.out.below H2.out HT.out.size)).mono ?_; rintro e w5 ⟨rfl, h5⟩; have H5 := Lib.hid (H2.out.trans (h5.mono H2.out.size)); clear h5))
      go_ret
      exact ⟨rfl, H5.out⟩
    · have WO := Lib.hid (Word_ok A 4 cap l w2 (by omega) HBk.out)
      have RW := Lib.hid (RWord_any A 4 cap l w2 (by omega) (by omega) HBk.out)
      have hvl : wv (fun i => l.getD i 0) 4 < 18446744073709551616 := Nat.lt_of_lt_of_le (wv_lt _ 4 (fun i _ => byte_lt HBk.out.2.1 i)) (by decide)
      have HVL := Lib.hid hvl
      clear hvl
      by_cases ht32 : t = 32
      · subst ht32
        have LO := Lib.hid (Load_4_32 A cap l s w2 HBk.out)
        have RE : Hid (Calls Tryd.prog 21 #[.int .i64 32, .int .i64 32, .bool s, .int .u64 ((wv (fun i => l.getD i 0) 4 : Nat) : Int)] w2 fun e w' => e = .returned (.int .u64 ((exv 32 32 s (wv (fun i => l.getD i 0) 4) : Nat) : Int)) ∧ Below w2.heap.size w2 w') := Lib.hid (RExtend_any 32 32 s _ w2 (by omega) (by unfold Wd.ok; omega) HVL.out)
        clear HVL
        generalize exv 32 32 s (wv (fun i => l.getD i 0) 4) = x at LO RE
        generalize wv (fun i => l.getD i 0) 4 = v at WO RW RE
        go_wp2_with (first
          | (go_at_call 24; refine WO.out.mono ?_; rintro e w3 ⟨rfl, rfl⟩)
          | (go_at_call 25; refine LO.out.mono ?_; rintro e w3 ⟨rfl, rfl⟩)
          | (go_at_call 26; refine RW.out.mono ?_; rintro e w3 ⟨rfl, rfl⟩)
          | (go_at_call 21; refine RE.out.mono ?_; rintro e w4 ⟨rfl, h4⟩; have H4 := Lib.hid (H2.out.trans (h4.mono H2.out.size)); clear h4)
          | (go_at_call 20; refine (AW.out _ (HT.out.below H4.out HT.out.size)).mono ?_; rintro e w5 ⟨rfl, h5⟩; have H5 := Lib.hid (H4.out.trans (h5.mono H4.out.size)); clear h5))
        go_ret
        exact ⟨rfl, H5.out⟩
      by_cases ht64 : t = 64
      · subst ht64
        have LO := Lib.hid (Load_4_64 A cap l s w2 HBk.out)
        have RE : Hid (Calls Tryd.prog 21 #[.int .i64 32, .int .i64 64, .bool s, .int .u64 ((wv (fun i => l.getD i 0) 4 : Nat) : Int)] w2 fun e w' => e = .returned (.int .u64 ((exv 32 64 s (wv (fun i => l.getD i 0) 4) : Nat) : Int)) ∧ Below w2.heap.size w2 w') := Lib.hid (RExtend_any 32 64 s _ w2 (by omega) (by unfold Wd.ok; omega) HVL.out)
        clear HVL
        generalize exv 32 64 s (wv (fun i => l.getD i 0) 4) = x at LO RE
        generalize wv (fun i => l.getD i 0) 4 = v at WO RW RE
        go_wp2_with (first
          | (go_at_call 24; refine WO.out.mono ?_; rintro e w3 ⟨rfl, rfl⟩)
          | (go_at_call 25; refine LO.out.mono ?_; rintro e w3 ⟨rfl, rfl⟩)
          | (go_at_call 26; refine RW.out.mono ?_; rintro e w3 ⟨rfl, rfl⟩)
          | (go_at_call 21; refine RE.out.mono ?_; rintro e w4 ⟨rfl, h4⟩; have H4 := Lib.hid (H2.out.trans (h4.mono H2.out.size)); clear h4)
          | (go_at_call 20; refine (AW.out _ (HT.out.below H4.out HT.out.size)).mono ?_; rintro e w5 ⟨rfl, h5⟩; have H5 := Lib.hid (H4.out.trans (h5.mono H4.out.size)); clear h5))
        go_ret
        exact ⟨rfl, H5.out⟩
      have LO := Lib.hid (Load_bad2 A 4 cap l t s w2 (by omega) HBk.out (by unfold Wd.ok; omega))
      have n1 : (t != 32) = true := by simpa using ht32
      have n2 : (t != 64) = true := by simpa using ht64
      have n3 : (t == 64) = false := by simpa using ht64
      clear ht32 ht64
      clear HVL
      generalize wv (fun i => l.getD i 0) 4 = v at WO RW
      go_wp2_with (first
        | (go_at_call 24; refine WO.out.mono ?_; rintro e w3 ⟨rfl, rfl⟩)
        | (go_at_call 25; refine LO.out.mono ?_; rintro e w3 ⟨rfl, rfl⟩)
        | (go_at_call 26; refine RW.out.mono ?_; rintro e w3 ⟨rfl, rfl⟩)
        | (go_at_call 20; refine (AW.out _ (HT.out.below H2.out HT.out.size)).mono ?_; rintro e w5 ⟨rfl, h5⟩; have H5 := Lib.hid (H2.out.trans (h5.mono H2.out.size)); clear h5))
      go_ret
      exact ⟨rfl, H5.out⟩
    · have WO := Lib.hid (Word_ok A 8 cap l w2 (by omega) HBk.out)
      have RW := Lib.hid (RWord_any A 8 cap l w2 (by omega) (by omega) HBk.out)
      have hvl : wv (fun i => l.getD i 0) 8 < 18446744073709551616 := Nat.lt_of_lt_of_le (wv_lt _ 8 (fun i _ => byte_lt HBk.out.2.1 i)) (by decide)
      have HVL := Lib.hid hvl
      clear hvl
      by_cases ht64 : t = 64
      · subst ht64
        have LO := Lib.hid (Load_8_64 A cap l s w2 HBk.out)
        have hx : ∀ v : Nat, v < 18446744073709551616 → exv 64 64 s v = v := fun v hv => by
          simp [exv]
          omega
        rw [hx _ HVL.out] at LO
        clear hx HVL
        generalize wv (fun i => l.getD i 0) 8 = v at WO RW LO
        go_wp2_with (first
          | (go_at_call 24; refine WO.out.mono ?_; rintro e w3 ⟨rfl, rfl⟩)
          | (go_at_call 25; refine LO.out.mono ?_; rintro e w3 ⟨rfl, rfl⟩)
          | (go_at_call 26; refine RW.out.mono ?_; rintro e w3 ⟨rfl, rfl⟩)
          | (go_at_call 20; refine (AW.out _ (HT.out.below H2.out HT.out.size)).mono ?_; rintro e w5 ⟨rfl, h5⟩; have H5 := Lib.hid (H2.out.trans (h5.mono H2.out.size)); clear h5))
        go_ret
        exact ⟨rfl, H5.out⟩
      by_cases ht32 : t = 32
      · subst ht32
        have LO := Lib.hid (Load_bad8 A cap l s w2 HBk.out)
        clear HVL
        generalize wv (fun i => l.getD i 0) 8 = v at WO RW
        go_wp2_with (first
          | (go_at_call 24; refine WO.out.mono ?_; rintro e w3 ⟨rfl, rfl⟩)
          | (go_at_call 25; refine LO.out.mono ?_; rintro e w3 ⟨rfl, rfl⟩)
          | (go_at_call 26; refine RW.out.mono ?_; rintro e w3 ⟨rfl, rfl⟩)
          | (go_at_call 20; refine (AW.out _ (HT.out.below H2.out HT.out.size)).mono ?_; rintro e w5 ⟨rfl, h5⟩; have H5 := Lib.hid (H2.out.trans (h5.mono H2.out.size)); clear h5))
        go_ret
        exact ⟨rfl, H5.out⟩
      have LO := Lib.hid (Load_bad2 A 8 cap l t s w2 (by omega) HBk.out (by unfold Wd.ok; omega))
      have n1 : (t != 32) = true := by simpa using ht32
      have n2 : (t != 64) = true := by simpa using ht64
      have n3 : (t == 64) = false := by simpa using ht64
      clear ht32 ht64
      clear HVL
      generalize wv (fun i => l.getD i 0) 8 = v at WO RW
      go_wp2_with (first
        | (go_at_call 24; refine WO.out.mono ?_; rintro e w3 ⟨rfl, rfl⟩)
        | (go_at_call 25; refine LO.out.mono ?_; rintro e w3 ⟨rfl, rfl⟩)
        | (go_at_call 26; refine RW.out.mono ?_; rintro e w3 ⟨rfl, rfl⟩)
        | (go_at_call 20; refine (AW.out _ (HT.out.below H2.out HT.out.size)).mono ?_; rintro e w5 ⟨rfl, h5⟩; have H5 := Lib.hid (H2.out.trans (h5.mono H2.out.size)); clear h5))
      go_ret
      exact ⟨rfl, H5.out⟩
  · have WB := Lib.hid (Word_bad A k cap w2 hk)
    have LB := Lib.hid (Load_bad1 A k cap t s w2 hk)
    have q1 : ((k : Int) != 1) = true := by simp; intro e; exact hk (.inl e)
    have q2 : ((k : Int) != 2) = true := by simp; intro e; exact hk (.inr (.inl e))
    have q3 : ((k : Int) != 4) = true := by simp; intro e; exact hk (.inr (.inr (.inl e)))
    have q4 : ((k : Int) != 8) = true := by simp; intro e; exact hk (.inr (.inr (.inr e)))
    clear hk
    go_wp2_with (first
      | (go_at_call 24; refine WB.out.mono ?_; rintro e w3 ⟨rfl, rfl⟩)
      | (go_at_call 25; refine LB.out.mono ?_; rintro e w3 ⟨rfl, rfl⟩)
      | (go_at_call 20; refine (AW.out _ (HT.out.below H2.out HT.out.size)).mono ?_; rintro e w5 ⟨rfl, h5⟩; have H5 := Lib.hid (H2.out.trans (h5.mono H2.out.size)); clear h5))
    go_ret
    exact ⟨rfl, H5.out⟩
set_option maxHeartbeats 4000000 in
set_option maxRecDepth 100000 in
theorem cb_8 (a : Nat) (ha : a < 18446744073709551616) (A : Option Addr) (k cap : Nat) (l : List Nat) (t : Int) (s : Bool) (w : World) (hT : Pw w) (hb : Byt w A k cap l) (hk20 : (k : Int) ≤ 20) :
    Calls Tryd.prog 7 #[.int .u64 a, .int .i64 8, .slice A k cap, .int .i64 t, .bool s] w fun e w' => e = .returned (.bool true) ∧ Below w.heap.size w w' := by
  have AW := Lib.hid awake6_any
  have HT := Lib.hid hT
  have HB := Lib.hid hb
  have Y1 : Hid (∀ w1 : World, Calls Tryd.prog 22 #[.int .u64 a, .int .i64 8] w1 (YPost w1.heap.size 8 (bys a 8) w1)) := Lib.hid (fun w1 => Bytes_ok a 8 w1 (by decide) ha)
  have Z1 : Hid (∀ w1 : World, Calls Tryd.prog 23 #[.int .u64 a, .int .i64 8] w1 (ZPost w1.heap.size 8 (bys a 8) w1)) := Lib.hid (fun w1 => RBytes_any 8 a w1 (by decide) (by decide) ha)
  obtain ⟨L, eL⟩ : ∃ L, L = bys a 8 := ⟨_, rfl⟩
  rw [← eL] at Y1 Z1
  clear hT hb eL ha
  go_enter Tryd.func7, Tryd.ntmps7
  go_wp2_with (first
    | (go_at_call 22; (with_reducible refine (Y1.out _).mono ?_); rintro e w1 hY; unfold YPost at hY; obtain ⟨g1, rfl, b1, k1, h1⟩ := hY; have B1 := Lib.hid b1; have H1 := Lib.hid h1; have c1 : (convert 40 9 (.slice (some ⟨g1, 0, none⟩) 8 8)).run Tryd.prog w1.drew = .ok (.string (str L)) w1.drew := conv_byt (show Byt w1.drew (some ⟨g1, 0, none⟩) 8 8 L from b1); clear b1 h1))
  refine wp_region_held_drew (S := (fun w' => (convert 40 9 (.slice (some ⟨g1, 0, none⟩) 8 8)).run Tryd.prog w' = .ok (.string (str L)) w')) (by kernel_rfl) c1 (fun hHeld => ?_)
  refine wpAnyH_take (i := 0) (oi := ?oi_217) (v := ?_) ?hi_217 (by kernel_rfl) ?hf_217 (by kernel_rfl) ?hQ_217 ?hy_217 (by assumption) ?_
  case hi_217 => simp only [List.getElem?_toArray, List.getElem?_cons_zero, List.getElem?_cons_succ]; rfl
  case hf_217 => kernel_rfl
  case hQ_217 => exact fun _ _ _ h => h
  case hy_217 =>
    refine Or.inl ⟨by rfl, ?_⟩
    intro W hSw
    have q1 := hSw
    go_simp
    try with_reducible rfl
  try simp only [Act.put, List.setIfInBounds_toArray, List.set_cons_zero, List.set_cons_succ]
  refine wpAnyH_take (i := 1) (oi := ?oi_218) (v := ?_) ?hi_218 (by kernel_rfl) ?hf_218 (by kernel_rfl) ?hQ_218 ?hy_218 (by assumption) ?_
  case hi_218 => simp only [List.getElem?_toArray, List.getElem?_cons_zero, List.getElem?_cons_succ]; rfl
  case hf_218 => kernel_rfl
  case hQ_218 => exact fun _ _ _ h => h
  case hy_218 =>
    refine Or.inl ⟨by rfl, ?_⟩
    intro W hSw
    have q1 := hSw
    go_simp
    try with_reducible rfl
  try simp only [Act.put, List.setIfInBounds_toArray, List.set_cons_zero, List.set_cons_succ]
  refine wpAnyH_take (i := 2) (oi := ?oi_219) (v := ?_) ?hi_219 (by kernel_rfl) ?hf_219 (by kernel_rfl) ?hQ_219 ?hy_219 (by assumption) ?_
  case hi_219 => simp only [List.getElem?_toArray, List.getElem?_cons_zero, List.getElem?_cons_succ]; rfl
  case hf_219 => kernel_rfl
  case hQ_219 => exact fun _ _ _ h => h
  case hy_219 =>
    refine Or.inl ⟨by rfl, ?_⟩
    intro W hSw
    have q1 := hSw
    go_simp
    try with_reducible rfl
  try simp only [Act.put, List.setIfInBounds_toArray, List.set_cons_zero, List.set_cons_succ]
  refine wpAnyH_take (i := 3) (oi := ?oi_220) (v := ?_) ?hi_220 (by kernel_rfl) ?hf_220 (by kernel_rfl) ?hQ_220 ?hy_220 (by assumption) ?_
  case hi_220 => simp only [List.getElem?_toArray, List.getElem?_cons_zero, List.getElem?_cons_succ]; rfl
  case hf_220 => kernel_rfl
  case hQ_220 => exact fun _ _ _ h => h
  case hy_220 =>
    refine Or.inl ⟨by rfl, ?_⟩
    intro W hSw
    have q1 := hSw
    go_simp
    try with_reducible rfl
  try simp only [Act.put, List.setIfInBounds_toArray, List.set_cons_zero, List.set_cons_succ]
  refine wpAnyH_take (i := 4) (oi := ?oi_221) (v := ?_) ?hi_221 (by kernel_rfl) ?hf_221 (by kernel_rfl) ?hQ_221 ?hy_221 (by assumption) ?_
  case hi_221 => simp only [List.getElem?_toArray, List.getElem?_cons_zero, List.getElem?_cons_succ]; rfl
  case hf_221 => kernel_rfl
  case hQ_221 => exact fun _ _ _ h => h
  case hy_221 =>
    refine Or.inl ⟨by rfl, ?_⟩
    intro W hSw
    have q1 := hSw
    go_simp
    try with_reducible rfl
  try simp only [Act.put, List.setIfInBounds_toArray, List.set_cons_zero, List.set_cons_succ]
  refine wpAnyH_take (i := 5) (oi := ?oi_222) (v := ?_) ?hi_222 (by kernel_rfl) ?hf_222 (by kernel_rfl) ?hQ_222 ?hy_222 (by assumption) ?_
  case hi_222 => simp only [List.getElem?_toArray, List.getElem?_cons_zero, List.getElem?_cons_succ]; rfl
  case hf_222 => kernel_rfl
  case hQ_222 => exact fun _ _ _ h => h
  case hy_222 =>
    refine Or.inl ⟨by rfl, ?_⟩
    intro W hSw
    have q1 := hSw
    go_simp
    try with_reducible rfl
  try simp only [Act.put, List.setIfInBounds_toArray, List.set_cons_zero, List.set_cons_succ]
  refine wpAnyH_ready (rs := [6]) (by kernel_rfl) (by simp) ?_
  refine AllReadyH.cons (o := ?oi_223) ?hi_223 (fun K hK => ?_) AllReadyH.nil
  case hi_223 => simp only [List.getElem?_toArray, List.getElem?_cons_zero, List.getElem?_cons_succ]; rfl
  go_simp
  (go_at_call 23
   (with_reducible refine (Z1.out _).mono ?_)
   rintro e w2 hZ
   unfold ZPost at hZ
   obtain ⟨g2, cp2, rfl, b2, hg2, h2⟩ := hZ
   have h3 : Below w1.heap.size w1 w2 := ⟨h2.os, h2.tape, h2.output, h2.size, h2.block⟩
   have H2 := Lib.hid (H1.out.trans (h3.mono H1.out.size))
   have c2 := conv_byt b2
   have c3 := conv_byt (B1.out.kept h3)
   clear b2 h2 h3)
  refine hK.out _ _ c3 (fun hHeld => ?_)
  clear hK K
  try simp only [Act.put, List.setIfInBounds_toArray, List.set_cons_zero, List.set_cons_succ]
  refine wpAnyH_ready (rs := [7]) (by kernel_rfl) (by simp) ?_
  refine AllReadyH.cons (o := ?oi_224) ?hi_224 (fun K hK => ?_) AllReadyH.nil
  case hi_224 => simp only [List.getElem?_toArray, List.getElem?_cons_zero, List.getElem?_cons_succ]; rfl
  go_simp
  refine hK.out _ _ c3 (fun hHeld => ?_)
  clear hK K
  try simp only [Act.put, List.setIfInBounds_toArray, List.set_cons_zero, List.set_cons_succ]
  refine wpAnyH_take (i := 8) (oi := ?oi_225) (v := ?_) ?hi_225 (by kernel_rfl) ?hf_225 (by kernel_rfl) ?hQ_225 ?hy_225 (by assumption) ?_
  case hi_225 => simp only [List.getElem?_toArray, List.getElem?_cons_zero, List.getElem?_cons_succ]; rfl
  case hf_225 => kernel_rfl
  case hQ_225 => exact fun _ _ _ h => h
  case hy_225 =>
    refine Or.inl ⟨by rfl, ?_⟩
    intro W hSw
    have q1 := hSw
    go_simp
    try with_reducible rfl
  try simp only [Act.put, List.setIfInBounds_toArray, List.set_cons_zero, List.set_cons_succ]
  refine wpAnyH_take (i := 9) (oi := ?oi_226) (v := ?_) ?hi_226 (by kernel_rfl) ?hf_226 (by kernel_rfl) ?hQ_226 ?hy_226 (by assumption) ?_
  case hi_226 => simp only [List.getElem?_toArray, List.getElem?_cons_zero, List.getElem?_cons_succ]; rfl
  case hf_226 => kernel_rfl
  case hQ_226 => exact fun _ _ _ h => h
  case hy_226 =>
    refine Or.inl ⟨by rfl, ?_⟩
    intro W hSw
    have q1 := hSw
    go_simp
    try with_reducible rfl
  try simp only [Act.put, List.setIfInBounds_toArray, List.set_cons_zero, List.set_cons_succ]
  refine wpAnyH_take (i := 10) (oi := ?oi_227) (v := ?_) ?hi_227 (by kernel_rfl) ?hf_227 (by kernel_rfl) ?hQ_227 ?hy_227 (by assumption) ?_
  case hi_227 => simp only [List.getElem?_toArray, List.getElem?_cons_zero, List.getElem?_cons_succ]; rfl
  case hf_227 => kernel_rfl
  case hQ_227 => exact fun _ _ _ h => h
  case hy_227 =>
    refine Or.inl ⟨by rfl, ?_⟩
    intro W hSw
    have q1 := hSw
    go_simp
    try with_reducible rfl
  try simp only [Act.put, List.setIfInBounds_toArray, List.set_cons_zero, List.set_cons_succ]
  refine wpAnyH_take (i := 11) (oi := ?oi_228) (v := ?_) ?hi_228 (by kernel_rfl) ?hf_228 (by kernel_rfl) ?hQ_228 ?hy_228 (by assumption) ?_
  case hi_228 => simp only [List.getElem?_toArray, List.getElem?_cons_zero, List.getElem?_cons_succ]; rfl
  case hf_228 => kernel_rfl
  case hQ_228 => exact fun _ _ _ h => h
  case hy_228 =>
    refine Or.inl ⟨by rfl, ?_⟩
    intro W hSw
    have q1 := hSw
    go_simp
    try with_reducible rfl
  try simp only [Act.put, List.setIfInBounds_toArray, List.set_cons_zero, List.set_cons_succ]
  refine wpAnyH_take (i := 12) (oi := ?oi_229) (v := ?_) ?hi_229 (by kernel_rfl) ?hf_229 (by kernel_rfl) ?hQ_229 ?hy_229 (by assumption) ?_
  case hi_229 => simp only [List.getElem?_toArray, List.getElem?_cons_zero, List.getElem?_cons_succ]; rfl
  case hf_229 => kernel_rfl
  case hQ_229 => exact fun _ _ _ h => h
  case hy_229 =>
    refine Or.inl ⟨by rfl, ?_⟩
    intro W hSw
    have q1 := hSw
    go_simp
    try with_reducible rfl
  try simp only [Act.put, List.setIfInBounds_toArray, List.set_cons_zero, List.set_cons_succ]
  refine wpAnyH_take (i := 13) (oi := ?oi_230) (v := ?_) ?hi_230 (by kernel_rfl) ?hf_230 (by kernel_rfl) ?hQ_230 ?hy_230 (by assumption) ?_
  case hi_230 => simp only [List.getElem?_toArray, List.getElem?_cons_zero, List.getElem?_cons_succ]; rfl
  case hf_230 => kernel_rfl
  case hQ_230 => exact fun _ _ _ h => h
  case hy_230 =>
    refine Or.inl ⟨by rfl, ?_⟩
    intro W hSw
    have q1 := hSw
    go_simp
    try with_reducible rfl
  try simp only [Act.put, List.setIfInBounds_toArray, List.set_cons_zero, List.set_cons_succ]
  refine wpAnyH_take (i := 14) (oi := ?oi_231) (v := ?_) ?hi_231 (by kernel_rfl) ?hf_231 (by kernel_rfl) ?hQ_231 ?hy_231 (by assumption) ?_
  case hi_231 => simp only [List.getElem?_toArray, List.getElem?_cons_zero, List.getElem?_cons_succ]; rfl
  case hf_231 => kernel_rfl
  case hQ_231 => exact fun _ _ _ h => h
  case hy_231 =>
    refine Or.inl ⟨by rfl, ?_⟩
    intro W hSw
    have q1 := hSw
    go_simp
    try with_reducible rfl
  try simp only [Act.put, List.setIfInBounds_toArray, List.set_cons_zero, List.set_cons_succ]
  refine wpAnyH_take (i := 15) (oi := ?oi_232) (v := ?_) ?hi_232 (by kernel_rfl) ?hf_232 (by kernel_rfl) ?hQ_232 ?hy_232 (by assumption) ?_
  case hi_232 => simp only [List.getElem?_toArray, List.getElem?_cons_zero, List.getElem?_cons_succ]; rfl
  case hf_232 => kernel_rfl
  case hQ_232 => exact fun _ _ _ h => h
  case hy_232 =>
    refine Or.inl ⟨by rfl, ?_⟩
    intro W hSw
    have q1 := hSw
    go_simp
    try with_reducible rfl
  try simp only [Act.put, List.setIfInBounds_toArray, List.set_cons_zero, List.set_cons_succ]
  refine wpAnyH_take (i := 16) (oi := ?oi_233) (v := ?_) ?hi_233 (by kernel_rfl) ?hf_233 (by kernel_rfl) ?hQ_233 ?hy_233 (by assumption) ?_
  case hi_233 => simp only [List.getElem?_toArray, List.getElem?_cons_zero, List.getElem?_cons_succ]; rfl
  case hf_233 => kernel_rfl
  case hQ_233 => exact fun _ _ _ h => h
  case hy_233 =>
    refine Or.inl ⟨by rfl, ?_⟩
    intro W hSw
    have q1 := hSw
    go_simp
    try with_reducible rfl
  try simp only [Act.put, List.setIfInBounds_toArray, List.set_cons_zero, List.set_cons_succ]
  refine wpAnyH_take (i := 17) (oi := ?oi_234) (v := ?_) ?hi_234 (by kernel_rfl) ?hf_234 (by kernel_rfl) ?hQ_234 ?hy_234 (by assumption) ?_
  case hi_234 => simp only [List.getElem?_toArray, List.getElem?_cons_zero, List.getElem?_cons_succ]; rfl
  case hf_234 => kernel_rfl
  case hQ_234 => exact fun _ _ _ h => h
  case hy_234 =>
    refine Or.inl ⟨by rfl, ?_⟩
    intro W hSw
    have q1 := hSw
    go_simp
    try with_reducible rfl
  try simp only [Act.put, List.setIfInBounds_toArray, List.set_cons_zero, List.set_cons_succ]
  refine wpAnyH_take (i := 18) (oi := ?oi_235) (v := undef) ?hi_235 (by kernel_rfl) ?hf_235 (by kernel_rfl) ?hQ_235 ?hy_235 (by assumption) ?_
  case hi_235 => simp only [List.getElem?_toArray, List.getElem?_cons_zero, List.getElem?_cons_succ]; rfl
  case hf_235 => kernel_rfl
  case hQ_235 => exact fun _ _ _ h => h
  case hy_235 => exact Or.inr ⟨by rfl, rfl⟩
  try simp only [Act.put, List.setIfInBounds_toArray, List.set_cons_zero, List.set_cons_succ]
  refine wpAnyH_take (i := 19) (oi := ?oi_236) (v := undef) ?hi_236 (by kernel_rfl) ?hf_236 (by kernel_rfl) ?hQ_236 ?hy_236 (by assumption) ?_
  case hi_236 => simp only [List.getElem?_toArray, List.getElem?_cons_zero, List.getElem?_cons_succ]; rfl
  case hf_236 => kernel_rfl
  case hQ_236 => exact fun _ _ _ h => h
  case hy_236 => exact Or.inr ⟨by rfl, rfl⟩
  try simp only [Act.put, List.setIfInBounds_toArray, List.set_cons_zero, List.set_cons_succ]
  refine wpAnyH_take (i := 20) (oi := ?oi_237) (v := undef) ?hi_237 (by kernel_rfl) ?hf_237 (by kernel_rfl) ?hQ_237 ?hy_237 (by assumption) ?_
  case hi_237 => simp only [List.getElem?_toArray, List.getElem?_cons_zero, List.getElem?_cons_succ]; rfl
  case hf_237 => kernel_rfl
  case hQ_237 => exact fun _ _ _ h => h
  case hy_237 => exact Or.inr ⟨by rfl, rfl⟩
  try simp only [Act.put, List.setIfInBounds_toArray, List.set_cons_zero, List.set_cons_succ]
  refine wpAnyH_take (i := 21) (oi := ?oi_238) (v := undef) ?hi_238 (by kernel_rfl) ?hf_238 (by kernel_rfl) ?hQ_238 ?hy_238 (by assumption) ?_
  case hi_238 => simp only [List.getElem?_toArray, List.getElem?_cons_zero, List.getElem?_cons_succ]; rfl
  case hf_238 => kernel_rfl
  case hQ_238 => exact fun _ _ _ h => h
  case hy_238 => exact Or.inr ⟨by rfl, rfl⟩
  try simp only [Act.put, List.setIfInBounds_toArray, List.set_cons_zero, List.set_cons_succ]
  refine wpAnyH_take (i := 22) (oi := ?oi_239) (v := undef) ?hi_239 (by kernel_rfl) ?hf_239 (by kernel_rfl) ?hQ_239 ?hy_239 (by assumption) ?_
  case hi_239 => simp only [List.getElem?_toArray, List.getElem?_cons_zero, List.getElem?_cons_succ]; rfl
  case hf_239 => kernel_rfl
  case hQ_239 => exact fun _ _ _ h => h
  case hy_239 => exact Or.inr ⟨by rfl, rfl⟩
  try simp only [Act.put, List.setIfInBounds_toArray, List.set_cons_zero, List.set_cons_succ]
  refine wpAnyH_take (i := 23) (oi := ?oi_240) (v := undef) ?hi_240 (by kernel_rfl) ?hf_240 (by kernel_rfl) ?hQ_240 ?hy_240 (by assumption) ?_
  case hi_240 => simp only [List.getElem?_toArray, List.getElem?_cons_zero, List.getElem?_cons_succ]; rfl
  case hf_240 => kernel_rfl
  case hQ_240 => exact fun _ _ _ h => h
  case hy_240 => exact Or.inr ⟨by rfl, rfl⟩
  try simp only [Act.put, List.setIfInBounds_toArray, List.set_cons_zero, List.set_cons_succ]
  refine wpAnyH_take (i := 24) (oi := ?oi_241) (v := undef) ?hi_241 (by kernel_rfl) ?hf_241 (by kernel_rfl) ?hQ_241 ?hy_241 (by assumption) ?_
  case hi_241 => simp only [List.getElem?_toArray, List.getElem?_cons_zero, List.getElem?_cons_succ]; rfl
  case hf_241 => kernel_rfl
  case hQ_241 => exact fun _ _ _ h => h
  case hy_241 => exact Or.inr ⟨by rfl, rfl⟩
  try simp only [Act.put, List.setIfInBounds_toArray, List.set_cons_zero, List.set_cons_succ]
  refine wpAnyH_take (i := 25) (oi := ?oi_242) (v := ?_) ?hi_242 (by kernel_rfl) ?hf_242 (by kernel_rfl) ?hQ_242 ?hy_242 (by assumption) ?_
  case hi_242 => simp only [List.getElem?_toArray, List.getElem?_cons_zero, List.getElem?_cons_succ]; rfl
  case hf_242 => kernel_rfl
  case hQ_242 => exact fun _ _ _ h => h
  case hy_242 =>
    refine Or.inl ⟨by rfl, ?_⟩
    intro W hSw
    have q1 := hSw
    go_simp
    try with_reducible rfl
  try simp only [Act.put, List.setIfInBounds_toArray, List.set_cons_zero, List.set_cons_succ]
  refine wpAnyH_take (i := 26) (oi := ?oi_243) (v := ?_) ?hi_243 (by kernel_rfl) ?hf_243 (by kernel_rfl) ?hQ_243 ?hy_243 (by assumption) ?_
  case hi_243 => simp only [List.getElem?_toArray, List.getElem?_cons_zero, List.getElem?_cons_succ]; rfl
  case hf_243 => kernel_rfl
  case hQ_243 => exact fun _ _ _ h => h
  case hy_243 =>
    refine Or.inl ⟨by rfl, ?_⟩
    intro W hSw
    have q1 := hSw
    go_simp
    try with_reducible rfl
  try simp only [Act.put, List.setIfInBounds_toArray, List.set_cons_zero, List.set_cons_succ]
  refine wpAnyH_done (by kernel_rfl) ?_ _
  clear hHeld c1 c2 c3
  clear B1 H1 Y1 Z1
  by_cases hk : cnt4 (k : Int)
  · have HBk := Lib.hid (HB.out.kept H2.out)
    have hk' : k = 1 ∨ k = 2 ∨ k = 4 ∨ k = 8 := by unfold cnt4 at hk; omega
    clear hk
    rcases hk' with rfl | rfl | rfl | rfl
    · have WO := Lib.hid (Word_ok A 1 cap l w2 (by omega) HBk.out)
      have RW := Lib.hid (RWord_any A 1 cap l w2 (by omega) (by omega) HBk.out)
      have hvl : wv (fun i => l.getD i 0) 1 < 18446744073709551616 := Nat.lt_of_lt_of_le (wv_lt _ 1 (fun i _ => byte_lt HBk.out.2.1 i)) (by decide)
      have HVL := Lib.hid hvl
      clear hvl
      by_cases ht32 : t = 32
      · subst ht32
        have LO := Lib.hid (Load_1_32 A cap l s w2 HBk.out)
        have RE : Hid (Calls Tryd.prog 21 #[.int .i64 8, .int .i64 32, .bool s, .int .u64 ((wv (fun i => l.getD i 0) 1 : Nat) : Int)] w2 fun e w' => e = .returned (.int .u64 ((exv 8 32 s (wv (fun i => l.getD i 0) 1) : Nat) : Int)) ∧ Below w2.heap.size w2 w') := Lib.hid (RExtend_any 8 32 s _ w2 (by omega) (by unfold Wd.ok; omega) HVL.out)
        clear HVL
        generalize exv 8 32 s (wv (fun i => l.getD i 0) 1) = x at LO RE
        generalize wv (fun i => l.getD i 0) 1 = v at WO RW RE
        go_wp2_with (first
          | (go_at_call 24; refine WO.out.mono ?_; rintro e w3 ⟨rfl, rfl⟩)
          | (go_at_call 25; refine LO.out.mono ?_; rintro e w3 ⟨rfl, rfl⟩)
          | (go_at_call 26; refine RW.out.mono ?_; rintro e w3 ⟨rfl, rfl⟩)
          | (go_at_call 21; refine RE.out.mono ?_; rintro e w4 ⟨rfl, h4⟩; have H4 := Lib.hid (H2.out.trans (h4.mono H2.out.size)); clear h4)
          | (go_at_call 20; refine (AW.out _ (HT.out.below H4.out HT.out.size)).mono ?_; rintro e w5 ⟨rfl, h5⟩; have H5 := Lib.hid (H4.out.trans (h5.mono H4.out.size)); clear h5))
        go_ret
        exact ⟨rfl, H5.out⟩
      by_cases ht64 : t = 64
      · subst ht64
        have LO := Lib.hid (Load_1_64 A cap l s w2 HBk.out)
        have RE : Hid (Calls Tryd.prog 21 #[.int .i64 8, .int .i64 64, .bool s, .int .u64 ((wv (fun i => l.getD i 0) 1 : Nat) : Int)] w2 fun e w' => e = .returned (.int .u64 ((exv 8 64 s (wv (fun i => l.getD i 0) 1) : Nat) : Int)) ∧ Below w2.heap.size w2 w') := Lib.hid (RExtend_any 8 64 s _ w2 (by omega) (by unfold Wd.ok; omega) HVL.out)
        clear HVL
        generalize exv 8 64 s (wv (fun i => l.getD i 0) 1) = x at LO RE
        generalize wv (fun i => l.getD i 0) 1 = v at WO RW RE
        go_wp2_with (first
          | (go_at_call 24; refine WO.out.mono ?_; rintro e w3 ⟨rfl, rfl⟩)
          | (go_at_call 25; refine LO.out.mono ?_; rintro e w3 ⟨rfl, rfl⟩)
          | (go_at_call 26; refine RW.out.mono ?_; rintro e w3 ⟨rfl, rfl⟩)
          | (go_at_call 21; refine RE.out.mono ?_; rintro e w4 ⟨rfl, h4⟩; have H4 := Lib.hid (H2.out.trans (h4.mono H2.out.size)); clear h4)
          | (go_at_call 20; refine (AW.out _ (HT.out.below H4.out HT.out.size)).mono ?_; rintro e w5 ⟨rfl, h5⟩; have H5 := Lib.hid (H4.out.trans (h5.mono H4.out.size)); clear h5))
        go_ret
        exact ⟨rfl, H5.out⟩
      have LO := Lib.hid (Load_bad2 A 1 cap l t s w2 (by omega) HBk.out (by unfold Wd.ok; omega))
      have n1 : (t != 32) = true := by simpa using ht32
      have n2 : (t != 64) = true := by simpa using ht64
      have n3 : (t == 64) = false := by simpa using ht64
      clear ht32 ht64
      clear HVL
      generalize wv (fun i => l.getD i 0) 1 = v at WO RW
      go_wp2_with (first
        | (go_at_call 24; refine WO.out.mono ?_; rintro e w3 ⟨rfl, rfl⟩)
        | (go_at_call 25; refine LO.out.mono ?_; rintro e w3 ⟨rfl, rfl⟩)
        | (go_at_call 26; refine RW.out.mono ?_; rintro e w3 ⟨rfl, rfl⟩)
        | (go_at_call 20; refine (AW.out _ (HT.out.below H2.out HT.out.size)).mono ?_; rintro e w5 ⟨rfl, h5⟩; have H5 := Lib.hid (H2.out.trans (h5.mono H2.out.size)); clear h5))
      go_ret
      exact ⟨rfl, H5.out⟩
    · have WO := Lib.hid (Word_ok A 2 cap l w2 (by omega) HBk.out)
      have RW := Lib.hid (RWord_any A 2 cap l w2 (by omega) (by omega) HBk.out)
      have hvl : wv (fun i => l.getD i 0) 2 < 18446744073709551616 := Nat.lt_of_lt_of_le (wv_lt _ 2 (fun i _ => byte_lt HBk.out.2.1 i)) (by decide)
      have HVL := Lib.hid hvl
      clear hvl
      by_cases ht32 : t = 32
      · subst ht32
        have LO := Lib.hid (Load_2_32 A cap l s w2 HBk.out)
        have RE : Hid (Calls Tryd.prog 21 #[.int .i64 16, .int .i64 32, .bool s, .int .u64 ((wv (fun i => l.getD i 0) 2 : Nat) : Int)] w2 fun e w' => e = .returned (.int .u64 ((exv 16 32 s (wv (fun i => l.getD i 0) 2) : Nat) : Int)) ∧ Below w2.heap.size w2 w') := Lib.hid (RExtend_any 16 32 s _ w2 (by omega) (by unfold Wd.ok; omega) HVL.out)
        clear HVL
        generalize exv 16 32 s (wv (fun i => l.getD i 0) 2) = x at LO RE
        generalize wv (fun i => l.getD i 0) 2 = v at WO RW RE
        go_wp2_with (first
          | (go_at_call 24; refine WO.out.mono ?_; rintro e w3 ⟨rfl, rfl⟩)
          | (go_at_call 25; refine LO.out.mono ?_; rintro e w3 ⟨rfl, rfl⟩)
          | (go_at_call 26; refine RW.out.mono ?_; rintro e w3 ⟨rfl, rfl⟩)
          | (go_at_call 21; refine RE.out.mono ?_; rintro e w4 ⟨rfl, h4⟩; have H4 := Lib.hid (H2.out.trans (h4.mono H2.out.size)); clear h4)
          | (go_at_call 20; refine (AW.out _ (HT.out.below H4.out HT.out.size)).mono ?_; rintro e w5 ⟨rfl, h5⟩; have H5 := Lib.hid (H4.out.trans (h5.mono H4.out.size)); clear h5))
        go_ret
        exact ⟨rfl, H5.out⟩
      by_cases ht64 : t = 64
      · subst ht64
        have LO := Lib.hid (Load_2_64 A cap l s w2 HBk.out)
        have RE : Hid (Calls Tryd.prog 21 #[.int .i64 16, .int .i64 64, .bool s, .int .u64 ((wv (fun i => l.getD i 0) 2 : Nat) : Int)] w2 fun e w' => e = .returned (.int .u64 ((exv 16 64 s (wv (fun i => l.getD i 0) 2) : Nat) : Int)) ∧ Below w2.heap.size w2 w') := Lib.hid (RExtend_any 16 64 s _ w2 (by omega) (by unfold Wd.ok; omega) HVL.out)
        clear HVL
        generalize exv 16 64 s (wv (fun i => l.getD i 0) 2) = x at LO RE
        generalize wv (fun i => l.getD i 0) 2 = v at WO RW RE
        go_wp2_with (first
          | (go_at_call 24; refine WO.out.mono ?_; rintro e w3 ⟨rfl, rfl⟩)
          | (go_at_call 25; refine LO.out.mono ?_; rintro e w3 ⟨rfl, rfl⟩)
          | (go_at_call 26; refine RW.out.mono ?_; rintro e w3 ⟨rfl, rfl⟩)
          | (go_at_call 21; refine RE.out.mono ?_; rintro e w4 ⟨rfl, h4⟩; have H4 := Lib.hid (H2.out.trans (h4.mono H2.out.size)); clear h4)
          | (go_at_call 20; refine (AW.out _ (HT.out.below H4.out HT.out.size)).mono ?_; rintro e w5 ⟨rfl, h5⟩; have H5 := Lib.hid (H4.out.trans (h5.mono H4.out.size)); clear h5))
        go_ret
        exact ⟨rfl, H5.out⟩
      have LO := Lib.hid (Load_bad2 A 2 cap l t s w2 (by omega) HBk.out (by unfold Wd.ok; omega))
      have n1 : (t != 32) = true := by simpa using ht32
      have n2 : (t != 64) = true := by simpa using ht64
      have n3 : (t == 64) = false := by simpa using ht64
      clear ht32 ht64
      clear HVL
      generalize wv (fun i => l.getD i 0) 2 = v at WO RW
      go_wp2_with (first
        | (go_at_call 24; refine WO.out.mono ?_; rintro e w3 ⟨rfl, rfl⟩)
        | (go_at_call 25; refine LO.out.mono ?_; rintro e w3 ⟨rfl, rfl⟩)
        | (go_at_call 26; refine RW.out.mono ?_; rintro e w3 ⟨rfl, rfl⟩)
        | (go_at_call 20; refine (AW.out _ (HT.out.below H2.out HT.out.size)).mono ?_; rintro e w5 ⟨rfl, h5⟩; have H5 := Lib.hid (H2.out.trans (h5.mono H2.out.size)); clear h5))
      go_ret
      exact ⟨rfl, H5.out⟩
    · have WO := Lib.hid (Word_ok A 4 cap l w2 (by omega) HBk.out)
      have RW := Lib.hid (RWord_any A 4 cap l w2 (by omega) (by omega) HBk.out)
      have hvl : wv (fun i => l.getD i 0) 4 < 18446744073709551616 := Nat.lt_of_lt_of_le (wv_lt _ 4 (fun i _ => byte_lt HBk.out.2.1 i)) (by decide)
      have HVL := Lib.hid hvl
      clear hvl
      by_cases ht32 : t = 32
      · subst ht32
        have LO := Lib.hid (Load_4_32 A cap l s w2 HBk.out)
        have RE : Hid (Calls Tryd.prog 21 #[.int .i64 32, .int .i64 32, .bool s, .int .u64 ((wv (fun i => l.getD i 0) 4 : Nat) : Int)] w2 fun e w' => e = .returned (.int .u64 ((exv 32 32 s (wv (fun i => l.getD i 0) 4) : Nat) : Int)) ∧ Below w2.heap.size w2 w') := Lib.hid (RExtend_any 32 32 s _ w2 (by omega) (by unfold Wd.ok; omega) HVL.out)
        clear HVL
        generalize exv 32 32 s (wv (fun i => l.getD i 0) 4) = x at LO RE
        generalize wv (fun i => l.getD i 0) 4 = v at WO RW RE
        go_wp2_with (first
          | (go_at_call 24; refine WO.out.mono ?_; rintro e w3 ⟨rfl, rfl⟩)
          | (go_at_call 25; refine LO.out.mono ?_; rintro e w3 ⟨rfl, rfl⟩)
          | (go_at_call 26; refine RW.out.mono ?_; rintro e w3 ⟨rfl, rfl⟩)
          | (go_at_call 21; refine RE.out.mono ?_; rintro e w4 ⟨rfl, h4⟩; have H4 := Lib.hid (H2.out.trans (h4.mono H2.out.size)); clear h4)
          | (go_at_call 20; refine (AW.out _ (HT.out.below H4.out HT.out.size)).mono ?_; rintro e w5 ⟨rfl, h5⟩; have H5 := Lib.hid (H4.out.trans (h5.mono H4.out.size)); clear h5))
        go_ret
        exact ⟨rfl, H5.out⟩
      by_cases ht64 : t = 64
      · subst ht64
        have LO := Lib.hid (Load_4_64 A cap l s w2 HBk.out)
        have RE : Hid (Calls Tryd.prog 21 #[.int .i64 32, .int .i64 64, .bool s, .int .u64 ((wv (fun i => l.getD i 0) 4 : Nat) : Int)] w2 fun e w' => e = .returned (.int .u64 ((exv 32 64 s (wv (fun i => l.getD i 0) 4) : Nat) : Int)) ∧ Below w2.heap.size w2 w') := Lib.hid (RExtend_any 32 64 s _ w2 (by omega) (by unfold Wd.ok; omega) HVL.out)
        clear HVL
        generalize exv 32 64 s (wv (fun i => l.getD i 0) 4) = x at LO RE
        generalize wv (fun i => l.getD i 0) 4 = v at WO RW RE
        go_wp2_with (first
          | (go_at_call 24; refine WO.out.mono ?_; rintro e w3 ⟨rfl, rfl⟩)
          | (go_at_call 25; refine LO.out.mono ?_; rintro e w3 ⟨rfl, rfl⟩)
          | (go_at_call 26; refine RW.out.mono ?_; rintro e w3 ⟨rfl, rfl⟩)
          | (go_at_call 21; refine RE.out.mono ?_; rintro e w4 ⟨rfl, h4⟩; have H4 := Lib.hid (H2.out.trans (h4.mono H2.out.size)); clear h4)
          | (go_at_call 20; refine (AW.out _ (HT.out.below H4.out HT.out.size)).mono ?_; rintro e w5 ⟨rfl, h5⟩; have H5 := Lib.hid (H4.out.trans (h5.mono H4.out.size)); clear h5))
        go_ret
        exact ⟨rfl, H5.out⟩
      have LO := Lib.hid (Load_bad2 A 4 cap l t s w2 (by omega) HBk.out (by unfold Wd.ok; omega))
      have n1 : (t != 32) = true := by simpa using ht32
      have n2 : (t != 64) = true := by simpa using ht64
      have n3 : (t == 64) = false := by simpa using ht64
      clear ht32 ht64
      clear HVL
      generalize wv (fun i => l.getD i 0) 4 = v at WO RW
      go_wp2_with (first
        | (go_at_call 24; refine WO.out.mono ?_; rintro e w3 ⟨rfl, rfl⟩)
        | (go_at_call 25; refine LO.out.mono ?_; rintro e w3 ⟨rfl, rfl⟩)
        | (go_at_call 26; refine RW.out.mono ?_; rintro e w3 ⟨rfl, rfl⟩)
        | (go_at_call 20; refine (AW.out _ (HT.out.below H2.out HT.out.size)).mono ?_; rintro e w5 ⟨rfl, h5⟩; have H5 := Lib.hid (H2.out.trans (h5.mono H2.out.size)); clear h5))
      go_ret
      exact ⟨rfl, H5.out⟩
    · have WO := Lib.hid (Word_ok A 8 cap l w2 (by omega) HBk.out)
      have RW := Lib.hid (RWord_any A 8 cap l w2 (by omega) (by omega) HBk.out)
      have hvl : wv (fun i => l.getD i 0) 8 < 18446744073709551616 := Nat.lt_of_lt_of_le (wv_lt _ 8 (fun i _ => byte_lt HBk.out.2.1 i)) (by decide)
      have HVL := Lib.hid hvl
      clear hvl
      by_cases ht64 : t = 64
      · subst ht64
        have LO := Lib.hid (Load_8_64 A cap l s w2 HBk.out)
        have hx : ∀ v : Nat, v < 18446744073709551616 → exv 64 64 s v = v := fun v hv => by
          simp [exv]
          omega
        rw [hx _ HVL.out] at LO
        clear hx HVL
        generalize wv (fun i => l.getD i 0) 8 = v at WO RW LO
        go_wp2_with (first
          | (go_at_call 24; refine WO.out.mono ?_; rintro e w3 ⟨rfl, rfl⟩)
          | (go_at_call 25; refine LO.out.mono ?_; rintro e w3 ⟨rfl, rfl⟩)
          | (go_at_call 26; refine RW.out.mono ?_; rintro e w3 ⟨rfl, rfl⟩)
          | (go_at_call 20; refine (AW.out _ (HT.out.below H2.out HT.out.size)).mono ?_; rintro e w5 ⟨rfl, h5⟩; have H5 := Lib.hid (H2.out.trans (h5.mono H2.out.size)); clear h5))
        go_ret
        exact ⟨rfl, H5.out⟩
      by_cases ht32 : t = 32
      · subst ht32
        have LO := Lib.hid (Load_bad8 A cap l s w2 HBk.out)
        clear HVL
        generalize wv (fun i => l.getD i 0) 8 = v at WO RW
        go_wp2_with (first
          | (go_at_call 24; refine WO.out.mono ?_; rintro e w3 ⟨rfl, rfl⟩)
          | (go_at_call 25; refine LO.out.mono ?_; rintro e w3 ⟨rfl, rfl⟩)
          | (go_at_call 26; refine RW.out.mono ?_; rintro e w3 ⟨rfl, rfl⟩)
          | (go_at_call 20; refine (AW.out _ (HT.out.below H2.out HT.out.size)).mono ?_; rintro e w5 ⟨rfl, h5⟩; have H5 := Lib.hid (H2.out.trans (h5.mono H2.out.size)); clear h5))
        go_ret
        exact ⟨rfl, H5.out⟩
      have LO := Lib.hid (Load_bad2 A 8 cap l t s w2 (by omega) HBk.out (by unfold Wd.ok; omega))
      have n1 : (t != 32) = true := by simpa using ht32
      have n2 : (t != 64) = true := by simpa using ht64
      have n3 : (t == 64) = false := by simpa using ht64
      clear ht32 ht64
      clear HVL
      generalize wv (fun i => l.getD i 0) 8 = v at WO RW
      go_wp2_with (first
        | (go_at_call 24; refine WO.out.mono ?_; rintro e w3 ⟨rfl, rfl⟩)
        | (go_at_call 25; refine LO.out.mono ?_; rintro e w3 ⟨rfl, rfl⟩)
        | (go_at_call 26; refine RW.out.mono ?_; rintro e w3 ⟨rfl, rfl⟩)
        | (go_at_call 20; refine (AW.out _ (HT.out.below H2.out HT.out.size)).mono ?_; rintro e w5 ⟨rfl, h5⟩; have H5 := Lib.hid (H2.out.trans (h5.mono H2.out.size)); clear h5))
      go_ret
      exact ⟨rfl, H5.out⟩
  · have WB := Lib.hid (Word_bad A k cap w2 hk)
    have LB := Lib.hid (Load_bad1 A k cap t s w2 hk)
    have q1 : ((k : Int) != 1) = true := by simp; intro e; exact hk (.inl e)
    have q2 : ((k : Int) != 2) = true := by simp; intro e; exact hk (.inr (.inl e))
    have q3 : ((k : Int) != 4) = true := by simp; intro e; exact hk (.inr (.inr (.inl e)))
    have q4 : ((k : Int) != 8) = true := by simp; intro e; exact hk (.inr (.inr (.inr e)))
    clear hk
    go_wp2_with (first
      | (go_at_call 24; refine WB.out.mono ?_; rintro e w3 ⟨rfl, rfl⟩)
      | (go_at_call 25; refine LB.out.mono ?_; rintro e w3 ⟨rfl, rfl⟩)
      | (go_at_call 20; refine (AW.out _ (HT.out.below H2.out HT.out.size)).mono ?_; rintro e w5 ⟨rfl, h5⟩; have H5 := Lib.hid (H2.out.trans (h5.mono H2.out.size)); clear h5))
    go_ret
    exact ⟨rfl, H5.out⟩
set_option maxHeartbeats 4000000 in
set_option maxRecDepth 100000 in
theorem cb_bad (a n : Int) (hn : ¬ cnt4 n) (A : Option Addr) (k cap : Nat) (l : List Nat) (t : Int) (s : Bool) (w : World) (hT : Pw w) (hb : Byt w A k cap l) (hk20 : (k : Int) ≤ 20) :
    Calls Tryd.prog 7 #[.int .u64 a, .int .i64 n, .slice A k cap, .int .i64 t, .bool s] w fun e w' => e = .returned (.bool true) ∧ Below w.heap.size w w' := by
  have AW := Lib.hid awake6_any
  have HT := Lib.hid hT
  have HB := Lib.hid hb
  have Y1 := Lib.hid (Bytes_bad a n w hn)
  have p1 : (n == 1) = false := by simp; intro e; exact hn (.inl e)
  have p2 : (n == 2) = false := by simp; intro e; exact hn (.inr (.inl e))
  have p3 : (n == 4) = false := by simp; intro e; exact hn (.inr (.inr (.inl e)))
  have p4 : (n == 8) = false := by simp; intro e; exact hn (.inr (.inr (.inr e)))
  clear hT hb hn
  go_enter Tryd.func7, Tryd.ntmps7
  go_wp2_with (go_at_call 22; refine Y1.out.mono ?_; rintro e w1 ⟨rfl, rfl⟩)
  refine wp_region_held_drew (S := (fun _ => True)) (by kernel_rfl) trivial (fun hHeld => ?_)
  refine wpAnyH_take (i := 0) (oi := ?oi_1) (v := ?_) ?hi_1 (by kernel_rfl) ?hf_1 (by kernel_rfl) ?hQ_1 ?hy_1 (by assumption) ?_
  case hi_1 => simp only [List.getElem?_toArray, List.getElem?_cons_zero, List.getElem?_cons_succ]; rfl
  case hf_1 => kernel_rfl
  case hQ_1 => exact fun _ _ _ h => h
  case hy_1 =>
    refine Or.inl ⟨by rfl, ?_⟩
    intro W hSw
    have q1 := hSw
    go_simp
    try with_reducible rfl
  try simp only [Act.put, List.setIfInBounds_toArray, List.set_cons_zero, List.set_cons_succ]
  refine wpAnyH_take (i := 1) (oi := ?oi_2) (v := ?_) ?hi_2 (by kernel_rfl) ?hf_2 (by kernel_rfl) ?hQ_2 ?hy_2 (by assumption) ?_
  case hi_2 => simp only [List.getElem?_toArray, List.getElem?_cons_zero, List.getElem?_cons_succ]; rfl
  case hf_2 => kernel_rfl
  case hQ_2 => exact fun _ _ _ h => h
  case hy_2 =>
    refine Or.inl ⟨by rfl, ?_⟩
    intro W hSw
    have q1 := hSw
    go_simp
    try with_reducible rfl
  try simp only [Act.put, List.setIfInBounds_toArray, List.set_cons_zero, List.set_cons_succ]
  refine wpAnyH_take (i := 2) (oi := ?oi_3) (v := undef) ?hi_3 (by kernel_rfl) ?hf_3 (by kernel_rfl) ?hQ_3 ?hy_3 (by assumption) ?_
  case hi_3 => simp only [List.getElem?_toArray, List.getElem?_cons_zero, List.getElem?_cons_succ]; rfl
  case hf_3 => kernel_rfl
  case hQ_3 => exact fun _ _ _ h => h
  case hy_3 => exact Or.inr ⟨by rfl, rfl⟩
  try simp only [Act.put, List.setIfInBounds_toArray, List.set_cons_zero, List.set_cons_succ]
  refine wpAnyH_take (i := 3) (oi := ?oi_4) (v := undef) ?hi_4 (by kernel_rfl) ?hf_4 (by kernel_rfl) ?hQ_4 ?hy_4 (by assumption) ?_
  case hi_4 => simp only [List.getElem?_toArray, List.getElem?_cons_zero, List.getElem?_cons_succ]; rfl
  case hf_4 => kernel_rfl
  case hQ_4 => exact fun _ _ _ h => h
  case hy_4 => exact Or.inr ⟨by rfl, rfl⟩
  try simp only [Act.put, List.setIfInBounds_toArray, List.set_cons_zero, List.set_cons_succ]
  refine wpAnyH_take (i := 4) (oi := ?oi_5) (v := undef) ?hi_5 (by kernel_rfl) ?hf_5 (by kernel_rfl) ?hQ_5 ?hy_5 (by assumption) ?_
  case hi_5 => simp only [List.getElem?_toArray, List.getElem?_cons_zero, List.getElem?_cons_succ]; rfl
  case hf_5 => kernel_rfl
  case hQ_5 => exact fun _ _ _ h => h
  case hy_5 => exact Or.inr ⟨by rfl, rfl⟩
  try simp only [Act.put, List.setIfInBounds_toArray, List.set_cons_zero, List.set_cons_succ]
  refine wpAnyH_take (i := 5) (oi := ?oi_6) (v := undef) ?hi_6 (by kernel_rfl) ?hf_6 (by kernel_rfl) ?hQ_6 ?hy_6 (by assumption) ?_
  case hi_6 => simp only [List.getElem?_toArray, List.getElem?_cons_zero, List.getElem?_cons_succ]; rfl
  case hf_6 => kernel_rfl
  case hQ_6 => exact fun _ _ _ h => h
  case hy_6 => exact Or.inr ⟨by rfl, rfl⟩
  try simp only [Act.put, List.setIfInBounds_toArray, List.set_cons_zero, List.set_cons_succ]
  refine wpAnyH_take (i := 6) (oi := ?oi_7) (v := undef) ?hi_7 (by kernel_rfl) ?hf_7 (by kernel_rfl) ?hQ_7 ?hy_7 (by assumption) ?_
  case hi_7 => simp only [List.getElem?_toArray, List.getElem?_cons_zero, List.getElem?_cons_succ]; rfl
  case hf_7 => kernel_rfl
  case hQ_7 => exact fun _ _ _ h => h
  case hy_7 => exact Or.inr ⟨by rfl, rfl⟩
  try simp only [Act.put, List.setIfInBounds_toArray, List.set_cons_zero, List.set_cons_succ]
  refine wpAnyH_take (i := 7) (oi := ?oi_8) (v := undef) ?hi_8 (by kernel_rfl) ?hf_8 (by kernel_rfl) ?hQ_8 ?hy_8 (by assumption) ?_
  case hi_8 => simp only [List.getElem?_toArray, List.getElem?_cons_zero, List.getElem?_cons_succ]; rfl
  case hf_8 => kernel_rfl
  case hQ_8 => exact fun _ _ _ h => h
  case hy_8 => exact Or.inr ⟨by rfl, rfl⟩
  try simp only [Act.put, List.setIfInBounds_toArray, List.set_cons_zero, List.set_cons_succ]
  refine wpAnyH_take (i := 8) (oi := ?oi_9) (v := undef) ?hi_9 (by kernel_rfl) ?hf_9 (by kernel_rfl) ?hQ_9 ?hy_9 (by assumption) ?_
  case hi_9 => simp only [List.getElem?_toArray, List.getElem?_cons_zero, List.getElem?_cons_succ]; rfl
  case hf_9 => kernel_rfl
  case hQ_9 => exact fun _ _ _ h => h
  case hy_9 => exact Or.inr ⟨by rfl, rfl⟩
  try simp only [Act.put, List.setIfInBounds_toArray, List.set_cons_zero, List.set_cons_succ]
  refine wpAnyH_take (i := 9) (oi := ?oi_10) (v := undef) ?hi_10 (by kernel_rfl) ?hf_10 (by kernel_rfl) ?hQ_10 ?hy_10 (by assumption) ?_
  case hi_10 => simp only [List.getElem?_toArray, List.getElem?_cons_zero, List.getElem?_cons_succ]; rfl
  case hf_10 => kernel_rfl
  case hQ_10 => exact fun _ _ _ h => h
  case hy_10 => exact Or.inr ⟨by rfl, rfl⟩
  try simp only [Act.put, List.setIfInBounds_toArray, List.set_cons_zero, List.set_cons_succ]
  refine wpAnyH_take (i := 10) (oi := ?oi_11) (v := undef) ?hi_11 (by kernel_rfl) ?hf_11 (by kernel_rfl) ?hQ_11 ?hy_11 (by assumption) ?_
  case hi_11 => simp only [List.getElem?_toArray, List.getElem?_cons_zero, List.getElem?_cons_succ]; rfl
  case hf_11 => kernel_rfl
  case hQ_11 => exact fun _ _ _ h => h
  case hy_11 => exact Or.inr ⟨by rfl, rfl⟩
  try simp only [Act.put, List.setIfInBounds_toArray, List.set_cons_zero, List.set_cons_succ]
  refine wpAnyH_take (i := 11) (oi := ?oi_12) (v := undef) ?hi_12 (by kernel_rfl) ?hf_12 (by kernel_rfl) ?hQ_12 ?hy_12 (by assumption) ?_
  case hi_12 => simp only [List.getElem?_toArray, List.getElem?_cons_zero, List.getElem?_cons_succ]; rfl
  case hf_12 => kernel_rfl
  case hQ_12 => exact fun _ _ _ h => h
  case hy_12 => exact Or.inr ⟨by rfl, rfl⟩
  try simp only [Act.put, List.setIfInBounds_toArray, List.set_cons_zero, List.set_cons_succ]
  refine wpAnyH_take (i := 12) (oi := ?oi_13) (v := undef) ?hi_13 (by kernel_rfl) ?hf_13 (by kernel_rfl) ?hQ_13 ?hy_13 (by assumption) ?_
  case hi_13 => simp only [List.getElem?_toArray, List.getElem?_cons_zero, List.getElem?_cons_succ]; rfl
  case hf_13 => kernel_rfl
  case hQ_13 => exact fun _ _ _ h => h
  case hy_13 => exact Or.inr ⟨by rfl, rfl⟩
  try simp only [Act.put, List.setIfInBounds_toArray, List.set_cons_zero, List.set_cons_succ]
  refine wpAnyH_take (i := 13) (oi := ?oi_14) (v := ?_) ?hi_14 (by kernel_rfl) ?hf_14 (by kernel_rfl) ?hQ_14 ?hy_14 (by assumption) ?_
  case hi_14 => simp only [List.getElem?_toArray, List.getElem?_cons_zero, List.getElem?_cons_succ]; rfl
  case hf_14 => kernel_rfl
  case hQ_14 => exact fun _ _ _ h => h
  case hy_14 =>
    refine Or.inl ⟨by rfl, ?_⟩
    intro W hSw
    have q1 := hSw
    go_simp
    try with_reducible rfl
  try simp only [Act.put, List.setIfInBounds_toArray, List.set_cons_zero, List.set_cons_succ]
  refine wpAnyH_take (i := 14) (oi := ?oi_15) (v := ?_) ?hi_15 (by kernel_rfl) ?hf_15 (by kernel_rfl) ?hQ_15 ?hy_15 (by assumption) ?_
  case hi_15 => simp only [List.getElem?_toArray, List.getElem?_cons_zero, List.getElem?_cons_succ]; rfl
  case hf_15 => kernel_rfl
  case hQ_15 => exact fun _ _ _ h => h
  case hy_15 =>
    refine Or.inl ⟨by rfl, ?_⟩
    intro W hSw
    have q1 := hSw
    go_simp
    try with_reducible rfl
  try simp only [Act.put, List.setIfInBounds_toArray, List.set_cons_zero, List.set_cons_succ]
  refine wpAnyH_take (i := 15) (oi := ?oi_16) (v := ?_) ?hi_16 (by kernel_rfl) ?hf_16 (by kernel_rfl) ?hQ_16 ?hy_16 (by assumption) ?_
  case hi_16 => simp only [List.getElem?_toArray, List.getElem?_cons_zero, List.getElem?_cons_succ]; rfl
  case hf_16 => kernel_rfl
  case hQ_16 => exact fun _ _ _ h => h
  case hy_16 =>
    refine Or.inl ⟨by rfl, ?_⟩
    intro W hSw
    have q1 := hSw
    go_simp
    try with_reducible rfl
  try simp only [Act.put, List.setIfInBounds_toArray, List.set_cons_zero, List.set_cons_succ]
  refine wpAnyH_take (i := 16) (oi := ?oi_17) (v := ?_) ?hi_17 (by kernel_rfl) ?hf_17 (by kernel_rfl) ?hQ_17 ?hy_17 (by assumption) ?_
  case hi_17 => simp only [List.getElem?_toArray, List.getElem?_cons_zero, List.getElem?_cons_succ]; rfl
  case hf_17 => kernel_rfl
  case hQ_17 => exact fun _ _ _ h => h
  case hy_17 =>
    refine Or.inl ⟨by rfl, ?_⟩
    intro W hSw
    have q1 := hSw
    go_simp
    try with_reducible rfl
  try simp only [Act.put, List.setIfInBounds_toArray, List.set_cons_zero, List.set_cons_succ]
  refine wpAnyH_take (i := 17) (oi := ?oi_18) (v := ?_) ?hi_18 (by kernel_rfl) ?hf_18 (by kernel_rfl) ?hQ_18 ?hy_18 (by assumption) ?_
  case hi_18 => simp only [List.getElem?_toArray, List.getElem?_cons_zero, List.getElem?_cons_succ]; rfl
  case hf_18 => kernel_rfl
  case hQ_18 => exact fun _ _ _ h => h
  case hy_18 =>
    refine Or.inl ⟨by rfl, ?_⟩
    intro W hSw
    have q1 := hSw
    go_simp
    try with_reducible rfl
  try simp only [Act.put, List.setIfInBounds_toArray, List.set_cons_zero, List.set_cons_succ]
  refine wpAnyH_take (i := 18) (oi := ?oi_19) (v := ?_) ?hi_19 (by kernel_rfl) ?hf_19 (by kernel_rfl) ?hQ_19 ?hy_19 (by assumption) ?_
  case hi_19 => simp only [List.getElem?_toArray, List.getElem?_cons_zero, List.getElem?_cons_succ]; rfl
  case hf_19 => kernel_rfl
  case hQ_19 => exact fun _ _ _ h => h
  case hy_19 =>
    refine Or.inl ⟨by rfl, ?_⟩
    intro W hSw
    have q1 := hSw
    go_simp
    try with_reducible rfl
  try simp only [Act.put, List.setIfInBounds_toArray, List.set_cons_zero, List.set_cons_succ]
  refine wpAnyH_take (i := 19) (oi := ?oi_20) (v := ?_) ?hi_20 (by kernel_rfl) ?hf_20 (by kernel_rfl) ?hQ_20 ?hy_20 (by assumption) ?_
  case hi_20 => simp only [List.getElem?_toArray, List.getElem?_cons_zero, List.getElem?_cons_succ]; rfl
  case hf_20 => kernel_rfl
  case hQ_20 => exact fun _ _ _ h => h
  case hy_20 =>
    refine Or.inl ⟨by rfl, ?_⟩
    intro W hSw
    have q1 := hSw
    go_simp
    try with_reducible rfl
  try simp only [Act.put, List.setIfInBounds_toArray, List.set_cons_zero, List.set_cons_succ]
  refine wpAnyH_take (i := 20) (oi := ?oi_21) (v := ?_) ?hi_21 (by kernel_rfl) ?hf_21 (by kernel_rfl) ?hQ_21 ?hy_21 (by assumption) ?_
  case hi_21 => simp only [List.getElem?_toArray, List.getElem?_cons_zero, List.getElem?_cons_succ]; rfl
  case hf_21 => kernel_rfl
  case hQ_21 => exact fun _ _ _ h => h
  case hy_21 =>
    refine Or.inl ⟨by rfl, ?_⟩
    intro W hSw
    have q1 := hSw
    go_simp
    try with_reducible rfl
  try simp only [Act.put, List.setIfInBounds_toArray, List.set_cons_zero, List.set_cons_succ]
  refine wpAnyH_take (i := 21) (oi := ?oi_22) (v := ?_) ?hi_22 (by kernel_rfl) ?hf_22 (by kernel_rfl) ?hQ_22 ?hy_22 (by assumption) ?_
  case hi_22 => simp only [List.getElem?_toArray, List.getElem?_cons_zero, List.getElem?_cons_succ]; rfl
  case hf_22 => kernel_rfl
  case hQ_22 => exact fun _ _ _ h => h
  case hy_22 =>
    refine Or.inl ⟨by rfl, ?_⟩
    intro W hSw
    have q1 := hSw
    go_simp
    try with_reducible rfl
  try simp only [Act.put, List.setIfInBounds_toArray, List.set_cons_zero, List.set_cons_succ]
  refine wpAnyH_take (i := 22) (oi := ?oi_23) (v := ?_) ?hi_23 (by kernel_rfl) ?hf_23 (by kernel_rfl) ?hQ_23 ?hy_23 (by assumption) ?_
  case hi_23 => simp only [List.getElem?_toArray, List.getElem?_cons_zero, List.getElem?_cons_succ]; rfl
  case hf_23 => kernel_rfl
  case hQ_23 => exact fun _ _ _ h => h
  case hy_23 =>
    refine Or.inl ⟨by rfl, ?_⟩
    intro W hSw
    have q1 := hSw
    go_simp
    try with_reducible rfl
  try simp only [Act.put, List.setIfInBounds_toArray, List.set_cons_zero, List.set_cons_succ]
  refine wpAnyH_take (i := 23) (oi := ?oi_24) (v := ?_) ?hi_24 (by kernel_rfl) ?hf_24 (by kernel_rfl) ?hQ_24 ?hy_24 (by assumption) ?_
  case hi_24 => simp only [List.getElem?_toArray, List.getElem?_cons_zero, List.getElem?_cons_succ]; rfl
  case hf_24 => kernel_rfl
  case hQ_24 => exact fun _ _ _ h => h
  case hy_24 =>
    refine Or.inl ⟨by rfl, ?_⟩
    intro W hSw
    have q1 := hSw
    go_simp
    try with_reducible rfl
  try simp only [Act.put, List.setIfInBounds_toArray, List.set_cons_zero, List.set_cons_succ]
  refine wpAnyH_take (i := 24) (oi := ?oi_25) (v := ?_) ?hi_25 (by kernel_rfl) ?hf_25 (by kernel_rfl) ?hQ_25 ?hy_25 (by assumption) ?_
  case hi_25 => simp only [List.getElem?_toArray, List.getElem?_cons_zero, List.getElem?_cons_succ]; rfl
  case hf_25 => kernel_rfl
  case hQ_25 => exact fun _ _ _ h => h
  case hy_25 =>
    refine Or.inl ⟨by rfl, ?_⟩
    intro W hSw
    have q1 := hSw
    go_simp
    try with_reducible rfl
  try simp only [Act.put, List.setIfInBounds_toArray, List.set_cons_zero, List.set_cons_succ]
  refine wpAnyH_take (i := 25) (oi := ?oi_26) (v := ?_) ?hi_26 (by kernel_rfl) ?hf_26 (by kernel_rfl) ?hQ_26 ?hy_26 (by assumption) ?_
  case hi_26 => simp only [List.getElem?_toArray, List.getElem?_cons_zero, List.getElem?_cons_succ]; rfl
  case hf_26 => kernel_rfl
  case hQ_26 => exact fun _ _ _ h => h
  case hy_26 =>
    refine Or.inl ⟨by rfl, ?_⟩
    intro W hSw
    have q1 := hSw
    go_simp
    try with_reducible rfl
  try simp only [Act.put, List.setIfInBounds_toArray, List.set_cons_zero, List.set_cons_succ]
  refine wpAnyH_take (i := 26) (oi := ?oi_27) (v := ?_) ?hi_27 (by kernel_rfl) ?hf_27 (by kernel_rfl) ?hQ_27 ?hy_27 (by assumption) ?_
  case hi_27 => simp only [List.getElem?_toArray, List.getElem?_cons_zero, List.getElem?_cons_succ]; rfl
  case hf_27 => kernel_rfl
  case hQ_27 => exact fun _ _ _ h => h
  case hy_27 =>
    refine Or.inl ⟨by rfl, ?_⟩
    intro W hSw
    have q1 := hSw
    go_simp
    try with_reducible rfl
  try simp only [Act.put, List.setIfInBounds_toArray, List.set_cons_zero, List.set_cons_succ]
  refine wpAnyH_done (by kernel_rfl) ?_ _
  clear hHeld
  have H2 : Hid (Below w.heap.size w w.drew) := Lib.hid ⟨rfl, rfl, rfl, Nat.le_refl _, fun _ _ => rfl⟩
  generalize w.drew = w2 at H2 ⊢
  by_cases hk : cnt4 (k : Int)
  · have HBk := Lib.hid (HB.out.kept H2.out)
    have hk' : k = 1 ∨ k = 2 ∨ k = 4 ∨ k = 8 := by unfold cnt4 at hk; omega
    clear hk
    rcases hk' with rfl | rfl | rfl | rfl
    · have WO := Lib.hid (Word_ok A 1 cap l w2 (by omega) HBk.out)
      have RW := Lib.hid (RWord_any A 1 cap l w2 (by omega) (by omega) HBk.out)
      have hvl : wv (fun i => l.getD i 0) 1 < 18446744073709551616 := Nat.lt_of_lt_of_le (wv_lt _ 1 (fun i _ => byte_lt HBk.out.2.1 i)) (by decide)
      have HVL := Lib.hid hvl
      clear hvl
      by_cases ht32 : t = 32
      · subst ht32
        have LO := Lib.hid (Load_1_32 A cap l s w2 HBk.out)
        have RE : Hid (Calls Tryd.prog 21 #[.int .i64 8, .int .i64 32, .bool s, .int .u64 ((wv (fun i => l.getD i 0) 1 : Nat) : Int)] w2 fun e w' => e = .returned (.int .u64 ((exv 8 32 s (wv (fun i => l.getD i 0) 1) : Nat) : Int)) ∧ Below w2.heap.size w2 w') := Lib.hid (RExtend_any 8 32 s _ w2 (by omega) (by unfold Wd.ok; omega) HVL.out)
        clear HVL
        generalize exv 8 32 s (wv (fun i => l.getD i 0) 1) = x at LO RE
        generalize wv (fun i => l.getD i 0) 1 = v at WO RW RE
        go_wp2_with (first
          | (go_at_call 24; refine WO.out.mono ?_; rintro e w3 ⟨rfl, rfl⟩)
          | (go_at_call 25; refine LO.out.mono ?_; rintro e w3 ⟨rfl, rfl⟩)
          | (go_at_call 26; refine RW.out.mono ?_; rintro e w3 ⟨rfl, rfl⟩)
          | (go_at_call 21; refine RE.out.mono ?_; rintro e w4 ⟨rfl, h4⟩; have H4 := Lib.hid (H2.out.trans (h4.mono H2.out.size)); clear h4)
          | (go_at_call 20; refine (AW.out _ (HT.out.below H4.out HT.out.size)).mono ?_; rintro e w5 ⟨rfl, h5⟩; have H5 := Lib.hid (H4.out.trans (h5.mono H4.out.size)); clear h5))
        go_ret
        exact ⟨rfl, H5.out⟩
      by_cases ht64 : t = 64
      · subst ht64
        have LO := Lib.hid (Load_1_64 A cap l s w2 HBk.out)
        have RE : Hid (Calls Tryd.prog 21 #[.int .i64 8, .int .i64 64, .bool s, .int .u64 ((wv (fun i => l.getD i 0) 1 : Nat) : Int)] w2 fun e w' => e = .returned (.int .u64 ((exv 8 64 s (wv (fun i => l.getD i 0) 1) : Nat) : Int)) ∧ Below w2.heap.size w2 w') := Lib.hid (RExtend_any 8 64 s _ w2 (by omega) (by unfold Wd.ok; omega) HVL.out)
        clear HVL
        generalize exv 8 64 s (wv (fun i => l.getD i 0) 1) = x at LO RE
        generalize wv (fun i => l.getD i 0) 1 = v at WO RW RE
        go_wp2_with (first
          | (go_at_call 24; refine WO.out.mono ?_; rintro e w3 ⟨rfl, rfl⟩)
          | (go_at_call 25; refine LO.out.mono ?_; rintro e w3 ⟨rfl, rfl⟩)
          | (go_at_call 26; refine RW.out.mono ?_; rintro e w3 ⟨rfl, rfl⟩)
          | (go_at_call 21; refine RE.out.mono ?_; rintro e w4 ⟨rfl, h4⟩; have H4 := Lib.hid (H2.out.trans (h4.mono H2.out.size)); clear h4)
          | (go_at_call 20; refine (AW.out _ (HT.out.below H4.out HT.out.size)).mono ?_; rintro e w5 ⟨rfl, h5⟩; have H5 := Lib.hid (H4.out.trans (h5.mono H4.out.size)); clear h5))
        go_ret
        exact ⟨rfl, H5.out⟩
      have LO := Lib.hid (Load_bad2 A 1 cap l t s w2 (by omega) HBk.out (by unfold Wd.ok; omega))
      have n1 : (t != 32) = true := by simpa using ht32
      have n2 : (t != 64) = true := by simpa using ht64
      have n3 : (t == 64) = false := by simpa using ht64
      clear ht32 ht64
      clear HVL
      generalize wv (fun i => l.getD i 0) 1 = v at WO RW
      go_wp2_with (first
        | (go_at_call 24; refine WO.out.mono ?_; rintro e w3 ⟨rfl, rfl⟩)
        | (go_at_call 25; refine LO.out.mono ?_; rintro e w3 ⟨rfl, rfl⟩)
        | (go_at_call 26; refine RW.out.mono ?_; rintro e w3 ⟨rfl, rfl⟩)
        | (go_at_call 20; refine (AW.out _ (HT.out.below H2.out HT.out.size)).mono ?_; rintro e w5 ⟨rfl, h5⟩; have H5 := Lib.hid (H2.out.trans (h5.mono H2.out.size)); clear h5))
      go_ret
      exact ⟨rfl, H5.out⟩
    · have WO := Lib.hid (Word_ok A 2 cap l w2 (by omega) HBk.out)
      have RW := Lib.hid (RWord_any A 2 cap l w2 (by omega) (by omega) HBk.out)
      have hvl : wv (fun i => l.getD i 0) 2 < 18446744073709551616 := Nat.lt_of_lt_of_le (wv_lt _ 2 (fun i _ => byte_lt HBk.out.2.1 i)) (by decide)
      have HVL := Lib.hid hvl
      clear hvl
      by_cases ht32 : t = 32
      · subst ht32
        have LO := Lib.hid (Load_2_32 A cap l s w2 HBk.out)
        have RE : Hid (Calls Tryd.prog 21 #[.int .i64 16, .int .i64 32, .bool s, .int .u64 ((wv (fun i => l.getD i 0) 2 : Nat) : Int)] w2 fun e w' => e = .returned (.int .u64 ((exv 16 32 s (wv (fun i => l.getD i 0) 2) : Nat) : Int)) ∧ Below w2.heap.size w2 w') := Lib.hid (RExtend_any 16 32 s _ w2 (by omega) (by unfold Wd.ok; omega) HVL.out)
        clear HVL
        generalize exv 16 32 s (wv (fun i => l.getD i 0) 2) = x at LO RE
        generalize wv (fun i => l.getD i 0) 2 = v at WO RW RE
        go_wp2_with (first
          | (go_at_call 24; refine WO.out.mono ?_; rintro e w3 ⟨rfl, rfl⟩)
          | (go_at_call 25; refine LO.out.mono ?_; rintro e w3 ⟨rfl, rfl⟩)
          | (go_at_call 26; refine RW.out.mono ?_; rintro e w3 ⟨rfl, rfl⟩)
          | (go_at_call 21; refine RE.out.mono ?_; rintro e w4 ⟨rfl, h4⟩; have H4 := Lib.hid (H2.out.trans (h4.mono H2.out.size)); clear h4)
          | (go_at_call 20; refine (AW.out _ (HT.out.below H4.out HT.out.size)).mono ?_; rintro e w5 ⟨rfl, h5⟩; have H5 := Lib.hid (H4.out.trans (h5.mono H4.out.size)); clear h5))
        go_ret
        exact ⟨rfl, H5.out⟩
      by_cases ht64 : t = 64
      · subst ht64
        have LO := Lib.hid (Load_2_64 A cap l s w2 HBk.out)
        have RE : Hid (Calls Tryd.prog 21 #[.int .i64 16, .int .i64 64, .bool s, .int .u64 ((wv (fun i => l.getD i 0) 2 : Nat) : Int)] w2 fun e w' => e = .returned (.int .u64 ((exv 16 64 s (wv (fun i => l.getD i 0) 2) : Nat) : Int)) ∧ Below w2.heap.size w2 w') := Lib.hid (RExtend_any 16 64 s _ w2 (by omega) (by unfold Wd.ok; omega) HVL.out)
        clear HVL
        generalize exv 16 64 s (wv (fun i => l.getD i 0) 2) = x at LO RE
        generalize wv (fun i => l.getD i 0) 2 = v at WO RW RE
        go_wp2_with (first
          | (go_at_call 24; refine WO.out.mono ?_; rintro e w3 ⟨rfl, rfl⟩)
          | (go_at_call 25; refine LO.out.mono ?_; rintro e w3 ⟨rfl, rfl⟩)
          | (go_at_call 26; refine RW.out.mono ?_; rintro e w3 ⟨rfl, rfl⟩)
          | (go_at_call 21; refine RE.out.mono ?_; rintro e w4 ⟨rfl, h4⟩; have H4 := Lib.hid (H2.out.trans (h4.mono H2.out.size)); clear h4)
          | (go_at_call 20; refine (AW.out _ (HT.out.below H4.out HT.out.size)).mono ?_; rintro e w5 ⟨rfl, h5⟩; have H5 := Lib.hid (H4.out.trans (h5.mono H4.out.size)); clear h5))
        go_ret
        exact ⟨rfl, H5.out⟩
      have LO := Lib.hid (Load_bad2 A 2 cap l t s w2 (by omega) HBk.out (by unfold Wd.ok; omega))
      have n1 : (t != 32) = true := by simpa using ht32
      have n2 : (t != 64) = true := by simpa using ht64
      have n3 : (t == 64) = false := by simpa using ht64
      clear ht32 ht64
      clear HVL
      generalize wv (fun i => l.getD i 0) 2 = v at WO RW
      go_wp2_with (first
        | (go_at_call 24; refine WO.out.mono ?_; rintro e w3 ⟨rfl, rfl⟩)
        | (go_at_call 25; refine LO.out.mono ?_; rintro e w3 ⟨rfl, rfl⟩)
        | (go_at_call 26; refine RW.out.mono ?_; rintro e w3 ⟨rfl, rfl⟩)
        | (go_at_call 20; refine (AW.out _ (HT.out.below H2.out HT.out.size)).mono ?_; rintro e w5 ⟨rfl, h5⟩; have H5 := Lib.hid (H2.out.trans (h5.mono H2.out.size)); clear h5))
      go_ret
      exact ⟨rfl, H5.out⟩
    · have WO := Lib.hid (Word_ok A 4 cap l w2 (by omega) HBk.out)
      have RW := Lib.hid (RWord_any A 4 cap l w2 (by omega) (by omega) HBk.out)
      have hvl : wv (fun i => l.getD i 0) 4 < 18446744073709551616 := Nat.lt_of_lt_of_le (wv_lt _ 4 (fun i _ => byte_lt HBk.out.2.1 i)) (by decide)
      have HVL := Lib.hid hvl
      clear hvl
      by_cases ht32 : t = 32
      · subst ht32
        have LO := Lib.hid (Load_4_32 A cap l s w2 HBk.out)
        have RE : Hid (Calls Tryd.prog 21 #[.int .i64 32, .int .i64 32, .bool s, .int .u64 ((wv (fun i => l.getD i 0) 4 : Nat) : Int)] w2 fun e w' => e = .returned (.int .u64 ((exv 32 32 s (wv (fun i => l.getD i 0) 4) : Nat) : Int)) ∧ Below w2.heap.size w2 w') := Lib.hid (RExtend_any 32 32 s _ w2 (by omega) (by unfold Wd.ok; omega) HVL.out)
        clear HVL
        generalize exv 32 32 s (wv (fun i => l.getD i 0) 4) = x at LO RE
        generalize wv (fun i => l.getD i 0) 4 = v at WO RW RE
        go_wp2_with (first
          | (go_at_call 24; refine WO.out.mono ?_; rintro e w3 ⟨rfl, rfl⟩)
          | (go_at_call 25; refine LO.out.mono ?_; rintro e w3 ⟨rfl, rfl⟩)
          | (go_at_call 26; refine RW.out.mono ?_; rintro e w3 ⟨rfl, rfl⟩)
          | (go_at_call 21; refine RE.out.mono ?_; rintro e w4 ⟨rfl, h4⟩; have H4 := Lib.hid (H2.out.trans (h4.mono H2.out.size)); clear h4)
          | (go_at_call 20; refine (AW.out _ (HT.out.below H4.out HT.out.size)).mono ?_; rintro e w5 ⟨rfl, h5⟩; have H5 := Lib.hid (H4.out.trans (h5.mono H4.out.size)); clear h5))
        go_ret
        exact ⟨rfl, H5.out⟩
      by_cases ht64 : t = 64
      · subst ht64
        have LO := Lib.hid (Load_4_64 A cap l s w2 HBk.out)
        have RE : Hid (Calls Tryd.prog 21 #[.int .i64 32, .int .i64 64, .bool s, .int .u64 ((wv (fun i => l.getD i 0) 4 : Nat) : Int)] w2 fun e w' => e = .returned (.int .u64 ((exv 32 64 s (wv (fun i => l.getD i 0) 4) : Nat) : Int)) ∧ Below w2.heap.size w2 w') := Lib.hid (RExtend_any 32 64 s _ w2 (by omega) (by unfold Wd.ok; omega) HVL.out)
        clear HVL
        generalize exv 32 64 s (wv (fun i => l.getD i 0) 4) = x at LO RE
        generalize wv (fun i => l.getD i 0) 4 = v at WO RW RE
        go_wp2_with (first
          | (go_at_call 24; refine WO.out.mono ?_; rintro e w3 ⟨rfl, rfl⟩)
          | (go_at_call 25; refine LO.out.mono ?_; rintro e w3 ⟨rfl, rfl⟩)
          | (go_at_call 26; refine RW.out.mono ?_; rintro e w3 ⟨rfl, rfl⟩)
          | (go_at_call 21; refine RE.out.mono ?_; rintro e w4 ⟨rfl, h4⟩; have H4 := Lib.hid (H2.out.trans (h4.mono H2.out.size)); clear h4)
          | (go_at_call 20; refine (AW.out _ (HT.out.below H4.out HT.out.size)).mono ?_; rintro e w5 ⟨rfl, h5⟩; have H5 := Lib.hid (H4.out.trans (h5.mono H4.out.size)); clear h5))
        go_ret
        exact ⟨rfl, H5.out⟩
      have LO := Lib.hid (Load_bad2 A 4 cap l t s w2 (by omega) HBk.out (by unfold Wd.ok; omega))
      have n1 : (t != 32) = true := by simpa using ht32
      have n2 : (t != 64) = true := by simpa using ht64
      have n3 : (t == 64) = false := by simpa using ht64
      clear ht32 ht64
      clear HVL
      generalize wv (fun i => l.getD i 0) 4 = v at WO RW
      go_wp2_with (first
        | (go_at_call 24; refine WO.out.mono ?_; rintro e w3 ⟨rfl, rfl⟩)
        | (go_at_call 25; refine LO.out.mono ?_; rintro e w3 ⟨rfl, rfl⟩)
        | (go_at_call 26; refine RW.out.mono ?_; rintro e w3 ⟨rfl, rfl⟩)
        | (go_at_call 20; refine (AW.out _ (HT.out.below H2.out HT.out.size)).mono ?_; rintro e w5 ⟨rfl, h5⟩; have H5 := Lib.hid (H2.out.trans (h5.mono H2.out.size)); clear h5))
      go_ret
      exact ⟨rfl, H5.out⟩
    · have WO := Lib.hid (Word_ok A 8 cap l w2 (by omega) HBk.out)
      have RW := Lib.hid (RWord_any A 8 cap l w2 (by omega) (by omega) HBk.out)
      have hvl : wv (fun i => l.getD i 0) 8 < 18446744073709551616 := Nat.lt_of_lt_of_le (wv_lt _ 8 (fun i _ => byte_lt HBk.out.2.1 i)) (by decide)
      have HVL := Lib.hid hvl
      clear hvl
      by_cases ht64 : t = 64
      · subst ht64
        have LO := Lib.hid (Load_8_64 A cap l s w2 HBk.out)
        have hx : ∀ v : Nat, v < 18446744073709551616 → exv 64 64 s v = v := fun v hv => by
          simp [exv]
          omega
        rw [hx _ HVL.out] at LO
        clear hx HVL
        generalize wv (fun i => l.getD i 0) 8 = v at WO RW LO
        go_wp2_with (first
          | (go_at_call 24; refine WO.out.mono ?_; rintro e w3 ⟨rfl, rfl⟩)
          | (go_at_call 25; refine LO.out.mono ?_; rintro e w3 ⟨rfl, rfl⟩)
          | (go_at_call 26; refine RW.out.mono ?_; rintro e w3 ⟨rfl, rfl⟩)
          | (go_at_call 20; refine (AW.out _ (HT.out.below H2.out HT.out.size)).mono ?_; rintro e w5 ⟨rfl, h5⟩; have H5 := Lib.hid (H2.out.trans (h5.mono H2.out.size)); clear h5))
        go_ret
        exact ⟨rfl, H5.out⟩
      by_cases ht32 : t = 32
      · subst ht32
        have LO := Lib.hid (Load_bad8 A cap l s w2 HBk.out)
        clear HVL
        generalize wv (fun i => l.getD i 0) 8 = v at WO RW
        go_wp2_with (first
          | (go_at_call 24; refine WO.out.mono ?_; rintro e w3 ⟨rfl, rfl⟩)
          | (go_at_call 25; refine LO.out.mono ?_; rintro e w3 ⟨rfl, rfl⟩)
          | (go_at_call 26; refine RW.out.mono ?_; rintro e w3 ⟨rfl, rfl⟩)
          | (go_at_call 20; refine (AW.out _ (HT.out.below H2.out HT.out.size)).mono ?_; rintro e w5 ⟨rfl, h5⟩; have H5 := Lib.hid (H2.out.trans (h5.mono H2.out.size)); clear h5))
        go_ret
        exact ⟨rfl, H5.out⟩
      have LO := Lib.hid (Load_bad2 A 8 cap l t s w2 (by omega) HBk.out (by unfold Wd.ok; omega))
      have n1 : (t != 32) = true := by simpa using ht32
      have n2 : (t != 64) = true := by simpa using ht64
      have n3 : (t == 64) = false := by simpa using ht64
      clear ht32 ht64
      clear HVL
      generalize wv (fun i => l.getD i 0) 8 = v at WO RW
      go_wp2_with (first
        | (go_at_call 24; refine WO.out.mono ?_; rintro e w3 ⟨rfl, rfl⟩)
        | (go_at_call 25; refine LO.out.mono ?_; rintro e w3 ⟨rfl, rfl⟩)
        | (go_at_call 26; refine RW.out.mono ?_; rintro e w3 ⟨rfl, rfl⟩)
        | (go_at_call 20; refine (AW.out _ (HT.out.below H2.out HT.out.size)).mono ?_; rintro e w5 ⟨rfl, h5⟩; have H5 := Lib.hid (H2.out.trans (h5.mono H2.out.size)); clear h5))
      go_ret
      exact ⟨rfl, H5.out⟩
  · have WB := Lib.hid (Word_bad A k cap w2 hk)
    have LB := Lib.hid (Load_bad1 A k cap t s w2 hk)
    have q1 : ((k : Int) != 1) = true := by simp; intro e; exact hk (.inl e)
    have q2 : ((k : Int) != 2) = true := by simp; intro e; exact hk (.inr (.inl e))
    have q3 : ((k : Int) != 4) = true := by simp; intro e; exact hk (.inr (.inr (.inl e)))
    have q4 : ((k : Int) != 8) = true := by simp; intro e; exact hk (.inr (.inr (.inr e)))
    clear hk
    go_wp2_with (first
      | (go_at_call 24; refine WB.out.mono ?_; rintro e w3 ⟨rfl, rfl⟩)
      | (go_at_call 25; refine LB.out.mono ?_; rintro e w3 ⟨rfl, rfl⟩)
      | (go_at_call 20; refine (AW.out _ (HT.out.below H2.out HT.out.size)).mono ?_; rintro e w5 ⟨rfl, h5⟩; have H5 := Lib.hid (H2.out.trans (h5.mono H2.out.size)); clear h5))
    go_ret
    exact ⟨rfl, H5.out⟩
set_option maxHeartbeats 1000000 in
set_option maxRecDepth 100000 in
theorem cb_long (a n : Int) (A : Option Addr) (k cap : Nat) (t : Int) (s : Bool) (w : World) (hT : Pw w) (hk9 : k ≤ 9223372036854775807) (hk20 : 20 < (k : Int)) :
    Calls Tryd.prog 7 #[.int .u64 a, .int .i64 n, .slice A k cap, .int .i64 t, .bool s] w fun e w' => e = .returned (.bool true) ∧ Below w.heap.size w w' := by
  have AW := Lib.hid (awake6_any w hT)
  clear hT
  go_enter Tryd.func7, Tryd.ntmps7
  go_wp2_with (go_at_call 20; refine AW.out.mono ?_; rintro e w5 ⟨rfl, h5⟩; have H5 := Lib.hid h5; clear h5)
  go_ret
  exact ⟨rfl, H5.out⟩

theorem convBytes_walk (a0 a1 : Int) (a2 : Option Addr) (len2 cap2 : Nat) (b2 : List Nat) (a3 : Int) (a4 : Bool) (w : World) (w0 : (Lit.int .u64 a0).wf = true) (w1 : (Lit.int .i64 a1).wf = true) (w2 : Byt w a2 len2 cap2 b2) (w3 : (Lit.int .i64 a3).wf = true) (hT : Pw w) :
    Calls Tryd.prog 7 #[.int .u64 a0, .int .i64 a1, .slice a2 len2 cap2, .int .i64 a3, .bool a4] w fun e w' => e = .returned (.bool true) ∧ Below w.heap.size w w' := by
  obtain ⟨a, rfl, ha⟩ := u64_nat w0
  by_cases h20 : 20 < (len2 : Int)
  · exact cb_long _ _ a2 len2 cap2 a3 a4 w hT (Nat.le_trans w2.2.2.1 w2.2.2.2.1) h20
  · by_cases hn : cnt4 a1
    · rcases hn with rfl | rfl | rfl | rfl
      · exact cb_1 a ha a2 len2 cap2 b2 a3 a4 w hT w2 (by omega)
      · exact cb_2 a ha a2 len2 cap2 b2 a3 a4 w hT w2 (by omega)
      · exact cb_4 a ha a2 len2 cap2 b2 a3 a4 w hT w2 (by omega)
      · exact cb_8 a ha a2 len2 cap2 b2 a3 a4 w hT w2 (by omega)
    · exact cb_bad _ a1 hn a2 len2 cap2 b2 a3 a4 w hT w2 (by omega)

set_option maxRecDepth 100000 in
theorem convBytes_lifted (os : Os) (started : os.Started) (H : Type) (enc : TypeId × Value → H) :
    ReturnsInHanded {} Tryd.checked os 7 .any (fun w args => (Rows.convBytesSpec.pre enc Tryd.prog Tryd.f7 [] false w args ∧ laidMetH Tryd.prog laidP w) ∧ sizedMet enc Tryd.prog Tryd.f7 (OpenSpec.ofChange Rows.convBytesSpec) false w args) (Rows.convBytesSpec.post enc Tryd.prog Tryd.f7 false true false false) := by
  refine returnsInHanded_of_change_and (C := Tryd.checked) (X := fun w _ => laidMetH Tryd.prog laidP w) (fun _ _ _ hh h => h.of_heap hh) Tryd.own started (by kernel_rfl) Tryd.func7
    (ChangeSpec.witness_shaped (enc := enc) (C := Tryd.checked) (os := os) (X := fun w _ => laidMetH Tryd.prog laidP w) false (World.doorLaid Tryd.prog 2000 os) #[.int .u64 0, .int .i64 0, .slice none 0 0, .int .i64 0, .bool false] 8 rfl (World.shaped_of_RefB (by kernel_rfl) (by kernel_rfl)) (by kernel_rfl) (by kernel_rfl) (by kernel_rfl) (doorP_met os _)) ?_
  intro W base args ds gs before hval0 hW _ _ hL _
  have hval : ∀ (j : Nat) t v, Tryd.f7.params[j]? = some t → args[j]? = some v → Value.okWide Tryd.prog W .any base t v := hval0
  have hW' := hW
  obtain ⟨p, q, hA0, hV, rfl, hfz, hnd⟩ := hW
  have hA : DataW.TrodAll enc Tryd.prog W 0 (fun _ => true) true Tryd.f7.params.toList args.toList ds p := hA0
  rw [Tryd.params7] at hA hval
  obtain ⟨v0, vs0, d0, ds0, p0, q0, hargs, rfl, rfl, h0, r0⟩ := trodAll_cons hA
  obtain ⟨v1, vs1, d1, ds1, p1, q1, rfl, rfl, rfl, h1, r1⟩ := trodAll_cons r0
  obtain ⟨v2, vs2, d2, ds2, p2, q2, rfl, rfl, rfl, h2, r2⟩ := trodAll_cons r1
  obtain ⟨v3, vs3, d3, ds3, p3, q3, rfl, rfl, rfl, h3, r3⟩ := trodAll_cons r2
  obtain ⟨v4, vs4, d4, ds4, p4, q4, rfl, rfl, rfl, h4, r4⟩ := trodAll_cons r3
  obtain ⟨rfl, rfl, rfl⟩ := trodAll_nil r4
  obtain rfl : args = #[v0, v1, v2, v3, v4] := by cases args; simp_all
  obtain ⟨rfl, rfl⟩ := trodVars_none hV
  obtain ⟨a0, rfl, rfl, rfl, w0⟩ := open_int Tryd.underlying22 (hval 0 22 v0 rfl rfl) h0
  obtain ⟨a1, rfl, rfl, rfl, w1⟩ := open_int Tryd.underlying3 (hval 1 3 v1 rfl rfl) h1
  obtain ⟨a2, len2, cap2, rfl⟩ := okWide_slice Tryd.underlying40 (hval 2 40 v2 rfl rfl)
  have k2 := h2
  have lt2 : ∀ x ∈ p2, x.block < W.heap.size := by obtain ⟨m, hm⟩ := k2; exact DataW.trod_lt m _ _ _ hm
  obtain ⟨z2, w2⟩ : ∃ zs, IsRow .u8 W a2 len2 cap2 zs := by
    obtain ⟨fuel, hf⟩ := h2
    rcases open_ints Tryd.underlying40 Tryd.underlying5 (by kernel_rfl) hf with ⟨hcs, _⟩ | ⟨x, l, c, zs, hcs, _, hl, hm, hz, _, hcell, hwz⟩
    · simp [Value.cells] at hcs
      obtain ⟨rfl, rfl, rfl⟩ := hcs
      exact ⟨[], .inl ⟨rfl, rfl, rfl, rfl⟩⟩
    · simp [Value.cells] at hcs
      obtain ⟨rfl, rfl, rfl⟩ := hcs
      exact ⟨zs, .inr ⟨_, rfl, hl, hm, by simpa using hz, hcell, hwz⟩⟩
  obtain ⟨b2, w2⟩ := byt_of_row w2
  obtain ⟨a3, rfl, rfl, rfl, w3⟩ := open_int Tryd.underlying3 (hval 3 3 v3 rfl rfl) h3
  obtain ⟨a4, rfl, rfl, rfl⟩ := open_bool Tryd.underlying4 (hval 4 4 v4 rfl rfl) h4
  clear hA0 hval0
  refine (convBytes_walk a0 a1 a2 len2 cap2 b2 a3 a4 W w0 w1 w2 w3 (tb_P hL)).mono fun e W' ⟨he, hg⟩ => ?_
  subst he
  exact ⟨_, rfl, _, _, _, [], _, [], hW', trodAll_mk1 (shut_bool Tryd.underlying4 _), (trodAll_cons_mk (shut_int Tryd.underlying22 w0) (trodAll_cons_mk (shut_int Tryd.underlying3 w1) (trodAll_cons_mk (Below.trod Tryd.laidOut (by kernel_rfl) (of_decide_eq_true (by kernel_rfl)) k2 hg lt2) (trodAll_cons_mk (shut_int Tryd.underlying3 w3) (trodAll_cons_mk (shut_bool Tryd.underlying4 _) trodAll_mk0))))), rfl, hg.frame _, fun h => by cases h⟩

theorem convBytes_over : Rows.convBytesRow.holds Tryd.pinned (OpenSpec.ofChange Rows.convBytesSpec) :=
  OpenClaim.holds_of_wide 7 Tryd.f7 rfl rfl rfl rfl rfl rfl rfl ⟨rfl, rfl, rfl, rfl, rfl⟩ rfl rfl rfl rfl rfl (by kernel_rfl) Tryd.func7 (by kernel_rfl)
    (of_decide_eq_true (by kernel_rfl)) (by unfold Func.isWrapper; first | (rw [if_pos (by decide +kernel)]; kernel_rfl) | (rw [if_neg (by decide +kernel)]; exact ⟨rfl, rfl⟩))
    (fun os started H enc _ => convBytes_lifted os started H enc)

theorem convBytes_proved : Rows.ConvBytesCardSaid :=
  Claim7.holds_tied_plain_at .later [] [.data, .data, .data] true (true, "397b09112119fa734b71d0dfbaa52ad10e3cfe198ad17a9f7798ec029590703f") true
    convBytes_over (fun _ h => by cases h) (by kernel_rfl) (fun _ h => by cases h) convBytes_row_tie rfl ⟨rfl, rfl⟩ (by kernel_rfl) rfl
    (fun f fn hf hfn => by
      obtain rfl : f = 7 := Option.some.inj ((show Tryd.prog.funcNamed "grommet/grommetlaw06.ConvBytes" = some 7 by kernel_rfl).symm.trans hf) |>.symm
      obtain rfl : fn = Tryd.f7 := (Option.some.inj (Tryd.func7.symm.trans hfn)).symm
      exact ⟨by kernel_rfl, fun j t ht => by
        rw [Tryd.params7] at ht
        have hm : t ∈ [22, 3, 40, 3, 4] := by simpa using Array.mem_of_getElem? ht
        have hall : ([22, 3, 40, 3, 4].all fun u => !Tryd.prog.wantsStandIn u) = true := by kernel_rfl
        exact (show Tryd.prog.wantsStandIn t = false by simpa using List.all_eq_true.1 hall t hm)⟩)
    (by kernel_rfl)
#print axioms convBytes_proved
end Go.Proofs.YtmbnaejoiglckaaDoor
