/- Layer 3: an instruction's fields as arithmetic; what is told is right (P3.2); two words told as one are one (P3.3). No program in sight but layer 2's tables. -/
import Derived.Test.YtakomdopeadcjaaDoorInstWhole
import Derived.Test.YtakomdopeadcjaaDoorDecodeMath
namespace Go.Proofs.YtakomdopeadcjaaDoor
open Go.RowKit
set_option linter.unusedVariables false

/-- The immediate number of a form. -/
def immOf (w f : Int) : Int :=
  if f = 1 then bitsOf w 12 20 * 4096
  else if f = 2 then extOf (((bitsOf w 31 1 * 256 + bitsOf w 12 8) * 2 + bitsOf w 20 1) * 2048 + bitsOf w 21 10 * 2) 21
  else if f = 3 then extOf (bitsOf w 20 12) 12
  else if f = 4 then extOf (((bitsOf w 31 1 * 2 + bitsOf w 7 1) * 64 + bitsOf w 25 6) * 32 + bitsOf w 8 4 * 2) 13
  else if f = 5 then extOf (bitsOf w 25 7 * 32 + bitsOf w 7 5) 12
  else if f = 7 then bitsOf w 20 5
  else if f = 9 then bitsOf w 15 5 else 0
def fldRd (w f : Int) : Int := if hasRdB f then bitsOf w 7 5 else 0
def fldRs1 (w f : Int) : Int := if hasRs1B f then bitsOf w 15 5 else 0
def fldRs2 (w f : Int) : Int := if hasRs2B f then bitsOf w 20 5 else 0
def fldCsr (w f : Int) : Int := if hasCsrB f then bitsOf w 20 12 else 0

theorem bo_7_5 (w : Int) : bitsOf w 7 5 = w / 128 % 32 := rfl
theorem bo_15_5 (w : Int) : bitsOf w 15 5 = w / 32768 % 32 := rfl
theorem bo_20_5 (w : Int) : bitsOf w 20 5 = w / 1048576 % 32 := rfl
theorem bo_20_12 (w : Int) : bitsOf w 20 12 = w / 1048576 % 4096 := rfl
theorem bo_12_20 (w : Int) : bitsOf w 12 20 = w / 4096 % 1048576 := rfl
theorem bo_31_1 (w : Int) : bitsOf w 31 1 = w / 2147483648 % 2 := rfl
theorem bo_12_8 (w : Int) : bitsOf w 12 8 = w / 4096 % 256 := rfl
theorem bo_20_1 (w : Int) : bitsOf w 20 1 = w / 1048576 % 2 := rfl
theorem bo_21_10 (w : Int) : bitsOf w 21 10 = w / 2097152 % 1024 := rfl
theorem bo_7_1 (w : Int) : bitsOf w 7 1 = w / 128 % 2 := rfl
theorem bo_25_6 (w : Int) : bitsOf w 25 6 = w / 33554432 % 64 := rfl
theorem bo_8_4 (w : Int) : bitsOf w 8 4 = w / 256 % 16 := rfl
theorem bo_25_7 (w : Int) : bitsOf w 25 7 = w / 33554432 % 128 := rfl
theorem ext_12 (x : Int) : extOf x 12 = if x % 4096 < 2048 then x % 4096 else x % 4096 + 4294967296 - 4096 := rfl
theorem ext_13 (x : Int) : extOf x 13 = if x % 8192 < 4096 then x % 8192 else x % 8192 + 4294967296 - 8192 := rfl
theorem ext_21 (x : Int) : extOf x 21 = if x % 2097152 < 1048576 then x % 2097152 else x % 2097152 + 4294967296 - 2097152 := rfl

theorem sg_ext12 (x : Int) : sgB (extOf x 12) 2048 = true := by
  apply sgB_t; rw [ext_12]; unfold signedOf; split <;> split <;> omega
theorem sg_ext13 (x : Int) : sgB (extOf x 13) 4096 = true := by
  apply sgB_t; rw [ext_13]; unfold signedOf; split <;> split <;> omega
theorem sg_ext21 (x : Int) : sgB (extOf x 21) 1048576 = true := by
  apply sgB_t; rw [ext_21]; unfold signedOf; split <;> split <;> omega

theorem immOf_bd (w f : Int) : 0 ≤ immOf w f ∧ immOf w f < 4294967296 := by
  unfold immOf
  simp only [bo_12_20, bo_20_5, bo_15_5, ext_12, ext_13, ext_21]
  repeat' split
  all_goals omega

/-- P3.2 -/
theorem fields_right (w f : Int) (hf : 0 ≤ f ∧ f < 10) : rightOf f (fldRd w f) (fldRs1 w f) (fldRs2 w f) (immOf w f) (fldCsr w f) = true := by
  have r1 : 0 ≤ bitsOf w 7 5 ∧ bitsOf w 7 5 ≤ 31 := by rw [bo_7_5]; omega
  have r2 : 0 ≤ bitsOf w 15 5 ∧ bitsOf w 15 5 ≤ 31 := by rw [bo_15_5]; omega
  have r3 : 0 ≤ bitsOf w 20 5 ∧ bitsOf w 20 5 ≤ 31 := by rw [bo_20_5]; omega
  have r4 : 0 ≤ bitsOf w 20 12 ∧ bitsOf w 20 12 ≤ 4095 := by rw [bo_20_12]; omega
  have e1 : ∀ h : Bool, partB (if h then bitsOf w 7 5 else 0) h 31 = true := fun h => by cases h <;> simp [partB, r1]
  have e2 : ∀ h : Bool, partB (if h then bitsOf w 15 5 else 0) h 31 = true := fun h => by cases h <;> simp [partB, r2]
  have e3 : ∀ h : Bool, partB (if h then bitsOf w 20 5 else 0) h 31 = true := fun h => by cases h <;> simp [partB, r3]
  have e4 : ∀ h : Bool, partB (if h then bitsOf w 20 12 else 0) h 4095 = true := fun h => by cases h <;> simp [partB, r4]
  have e5 : immB (immOf w f) f = true := by
    rcases form10 hf with rfl | rfl | rfl | rfl | rfl | rfl | rfl | rfl | rfl | rfl
    · rfl
    · show decide (bitsOf w 12 20 * 4096 % 4096 = 0) = true
      apply decide_eq_true; omega
    · show (evenB (extOf _ 21) && sgB (extOf _ 21) 1048576) = true
      rw [sg_ext21, Bool.and_true]
      apply decide_eq_true
      rw [ext_21]; split <;> omega
    · exact sg_ext12 _
    · show (evenB (extOf _ 13) && sgB (extOf _ 13) 4096) = true
      rw [sg_ext13, Bool.and_true]
      apply decide_eq_true
      rw [ext_13]; split <;> omega
    · exact sg_ext12 _
    · rfl
    · show decide (bitsOf w 20 5 < 32) = true
      apply decide_eq_true; omega
    · rfl
    · show decide (bitsOf w 15 5 < 32) = true
      apply decide_eq_true; omega
  unfold rightOf fldRd fldRs1 fldRs2 fldCsr
  rw [e1, e2, e3, e4, e5]; rfl

/-- What the mask of a kind holds, as the kind's form has it: all that its fields do not. -/
theorem kind_parts (a b : Int) (ha0 : 0 ≤ a) (ha1 : a < 4294967296) (hb0 : 0 ≤ b) (hb1 : b < 4294967296) (hk : kindOf a ≠ 0) (he : kindOf a = kindOf b) :
    bits .and .u32 a (maskL.getD (kindOf a - 1) 0) = bits .and .u32 b (maskL.getD (kindOf a - 1) 0) := by
  rw [kind_hit a ha0 ha1 hk, he, kind_hit b hb0 hb1 (by omega)]

/-- Kinds by form: what mask they have. -/
theorem kind_masks : ∀ k, k < 58 → k ≠ 0 → ((formZ k = 1 ∨ formZ k = 2) ∧ maskL.getD (k - 1) 0 = 127) ∨ ((formZ k = 3 ∨ formZ k = 4 ∨ formZ k = 5 ∨ formZ k = 8 ∨ formZ k = 9) ∧ maskL.getD (k - 1) 0 = 28799) ∨ ((formZ k = 6 ∨ formZ k = 7) ∧ maskL.getD (k - 1) 0 = 4261441663) ∨ (formZ k = 0 ∧ maskL.getD (k - 1) 0 = 4294967295) := by decide +kernel

theorem ext12_inj (x y : Int) (h0 : 0 ≤ x) (h1 : x < 4096) (h2 : 0 ≤ y) (h3 : y < 4096) (h : extOf x 12 = extOf y 12) : x = y := by
  rw [ext_12, ext_12, Int.emod_eq_of_lt h0 h1, Int.emod_eq_of_lt h2 h3] at h
  split at h <;> split at h <;> omega
theorem ext13_inj (x y : Int) (h0 : 0 ≤ x) (h1 : x < 8192) (h2 : 0 ≤ y) (h3 : y < 8192) (h : extOf x 13 = extOf y 13) : x = y := by
  rw [ext_13, ext_13, Int.emod_eq_of_lt h0 h1, Int.emod_eq_of_lt h2 h3] at h
  split at h <;> split at h <;> omega
theorem ext21_inj (x y : Int) (h0 : 0 ≤ x) (h1 : x < 2097152) (h2 : 0 ≤ y) (h3 : y < 2097152) (h : extOf x 21 = extOf y 21) : x = y := by
  rw [ext_21, ext_21, Int.emod_eq_of_lt h0 h1, Int.emod_eq_of_lt h2 h3] at h
  split at h <;> split at h <;> omega

theorem jn_u (a : Int) (h0 : 0 ≤ a) (h1 : a < 4294967296) : a = bitsOf a 12 20 * 4096 + bitsOf a 7 5 * 128 + a % 128 := by
  simp only [bo_12_20, bo_7_5]; omega
theorem jn_j (a : Int) (h0 : 0 ≤ a) (h1 : a < 4294967296) : a = bitsOf a 31 1 * 2147483648 + bitsOf a 21 10 * 2097152 + bitsOf a 20 1 * 1048576 + bitsOf a 12 8 * 4096 + bitsOf a 7 5 * 128 + a % 128 := by
  simp only [bo_31_1, bo_21_10, bo_20_1, bo_12_8, bo_7_5]; omega
theorem jn_i (a : Int) (h0 : 0 ≤ a) (h1 : a < 4294967296) : a = bitsOf a 20 12 * 1048576 + bitsOf a 15 5 * 32768 + a / 4096 % 8 * 4096 + bitsOf a 7 5 * 128 + a % 128 := by
  simp only [bo_20_12, bo_15_5, bo_7_5]; omega
theorem jn_b (a : Int) (h0 : 0 ≤ a) (h1 : a < 4294967296) : a = bitsOf a 31 1 * 2147483648 + bitsOf a 25 6 * 33554432 + bitsOf a 20 5 * 1048576 + bitsOf a 15 5 * 32768 + a / 4096 % 8 * 4096 + bitsOf a 8 4 * 256 + bitsOf a 7 1 * 128 + a % 128 := by
  simp only [bo_31_1, bo_25_6, bo_20_5, bo_15_5, bo_8_4, bo_7_1]; omega
theorem jn_s (a : Int) (h0 : 0 ≤ a) (h1 : a < 4294967296) : a = bitsOf a 25 7 * 33554432 + bitsOf a 20 5 * 1048576 + bitsOf a 15 5 * 32768 + a / 4096 % 8 * 4096 + bitsOf a 7 5 * 128 + a % 128 := by
  simp only [bo_25_7, bo_20_5, bo_15_5, bo_7_5]; omega
theorem jn_r (a : Int) (h0 : 0 ≤ a) (h1 : a < 4294967296) : a = a / 33554432 * 33554432 + bitsOf a 20 5 * 1048576 + bitsOf a 15 5 * 32768 + a / 4096 % 8 * 4096 + bitsOf a 7 5 * 128 + a % 128 := by
  simp only [bo_20_5, bo_15_5, bo_7_5]; omega

theorem b1 (a : Int) (i : Int) : 0 ≤ bitsOf a i 1 ∧ bitsOf a i 1 < 2 := ⟨bitsOf_nn a i 1, bitsOf_lt a i 1⟩
theorem b4 (a : Int) (i : Int) : 0 ≤ bitsOf a i 4 ∧ bitsOf a i 4 < 16 := ⟨bitsOf_nn a i 4, bitsOf_lt a i 4⟩
theorem b5 (a : Int) (i : Int) : 0 ≤ bitsOf a i 5 ∧ bitsOf a i 5 < 32 := ⟨bitsOf_nn a i 5, bitsOf_lt a i 5⟩
theorem b6 (a : Int) (i : Int) : 0 ≤ bitsOf a i 6 ∧ bitsOf a i 6 < 64 := ⟨bitsOf_nn a i 6, bitsOf_lt a i 6⟩
theorem b7 (a : Int) (i : Int) : 0 ≤ bitsOf a i 7 ∧ bitsOf a i 7 < 128 := ⟨bitsOf_nn a i 7, bitsOf_lt a i 7⟩
theorem b8 (a : Int) (i : Int) : 0 ≤ bitsOf a i 8 ∧ bitsOf a i 8 < 256 := ⟨bitsOf_nn a i 8, bitsOf_lt a i 8⟩
theorem b10 (a : Int) (i : Int) : 0 ≤ bitsOf a i 10 ∧ bitsOf a i 10 < 1024 := ⟨bitsOf_nn a i 10, bitsOf_lt a i 10⟩
theorem b12 (a : Int) (i : Int) : 0 ≤ bitsOf a i 12 ∧ bitsOf a i 12 < 4096 := ⟨bitsOf_nn a i 12, bitsOf_lt a i 12⟩

theorem lin_j (x1 x2 x3 x4 y1 y2 y3 y4 : Int) (a1 : 0 ≤ x1 ∧ x1 < 2) (a2 : 0 ≤ x2 ∧ x2 < 256) (a3 : 0 ≤ x3 ∧ x3 < 2) (a4 : 0 ≤ x4 ∧ x4 < 1024) (c1 : 0 ≤ y1 ∧ y1 < 2) (c2 : 0 ≤ y2 ∧ y2 < 256) (c3 : 0 ≤ y3 ∧ y3 < 2) (c4 : 0 ≤ y4 ∧ y4 < 1024)
    (h : extOf (((x1 * 256 + x2) * 2 + x3) * 2048 + x4 * 2) 21 = extOf (((y1 * 256 + y2) * 2 + y3) * 2048 + y4 * 2) 21) : x1 = y1 ∧ x2 = y2 ∧ x3 = y3 ∧ x4 = y4 := by
  have := ext21_inj _ _ (by omega) (by omega) (by omega) (by omega) h
  omega
theorem lin_b (x1 x2 x3 x4 y1 y2 y3 y4 : Int) (a1 : 0 ≤ x1 ∧ x1 < 2) (a2 : 0 ≤ x2 ∧ x2 < 2) (a3 : 0 ≤ x3 ∧ x3 < 64) (a4 : 0 ≤ x4 ∧ x4 < 16) (c1 : 0 ≤ y1 ∧ y1 < 2) (c2 : 0 ≤ y2 ∧ y2 < 2) (c3 : 0 ≤ y3 ∧ y3 < 64) (c4 : 0 ≤ y4 ∧ y4 < 16)
    (h : extOf (((x1 * 2 + x2) * 64 + x3) * 32 + x4 * 2) 13 = extOf (((y1 * 2 + y2) * 64 + y3) * 32 + y4 * 2) 13) : x1 = y1 ∧ x2 = y2 ∧ x3 = y3 ∧ x4 = y4 := by
  have := ext13_inj _ _ (by omega) (by omega) (by omega) (by omega) h
  omega
theorem lin_s (x1 x2 y1 y2 : Int) (a1 : 0 ≤ x1 ∧ x1 < 128) (a2 : 0 ≤ x2 ∧ x2 < 32) (c1 : 0 ≤ y1 ∧ y1 < 128) (c2 : 0 ≤ y2 ∧ y2 < 32) (h : extOf (x1 * 32 + x2) 12 = extOf (y1 * 32 + y2) 12) : x1 = y1 ∧ x2 = y2 := by
  have := ext12_inj _ _ (by omega) (by omega) (by omega) (by omega) h
  omega

/-- P3.3 -/
theorem words_one (a b : Int) (ha0 : 0 ≤ a) (ha1 : a < 4294967296) (hb0 : 0 ≤ b) (hb1 : b < 4294967296) (hk : kindOf a ≠ 0) (he : kindOf a = kindOf b)
    (h1 : fldRd a (formZ (kindOf a)) = fldRd b (formZ (kindOf a))) (h2 : fldRs1 a (formZ (kindOf a)) = fldRs1 b (formZ (kindOf a))) (h3 : fldRs2 a (formZ (kindOf a)) = fldRs2 b (formZ (kindOf a)))
    (h4 : immOf a (formZ (kindOf a)) = immOf b (formZ (kindOf a))) (h5 : fldCsr a (formZ (kindOf a)) = fldCsr b (formZ (kindOf a))) : a = b := by
  have hp := kind_parts a b ha0 ha1 hb0 hb1 hk he
  have hm := kind_masks (kindOf a) (kind_lt a) hk
  generalize formZ (kindOf a) = f at *
  generalize maskL.getD (kindOf a - 1) 0 = m at *
  clear he hk
  rcases hm with ⟨hf, rfl⟩ | ⟨hf, rfl⟩ | ⟨hf, rfl⟩ | ⟨hf, rfl⟩
  · rw [u32_and7 a ha0 ha1, u32_and7 b hb0 hb1] at hp
    rcases hf with rfl | rfl
    · have g1 : bitsOf a 7 5 = bitsOf b 7 5 := h1
      have g4 : bitsOf a 12 20 * 4096 = bitsOf b 12 20 * 4096 := h4
      rw [jn_u a ha0 ha1, jn_u b hb0 hb1, g1, g4, hp]
    · have g1 : bitsOf a 7 5 = bitsOf b 7 5 := h1
      obtain ⟨e1, e2, e3, e4⟩ := lin_j _ _ _ _ _ _ _ _ (b1 a 31) (b8 a 12) (b1 a 20) (b10 a 21) (b1 b 31) (b8 b 12) (b1 b 20) (b10 b 21) h4
      rw [jn_j a ha0 ha1, jn_j b hb0 hb1, g1, e1, e2, e3, e4, hp]
  · rw [u32_and707f a ha0 ha1, u32_and707f b hb0 hb1] at hp
    have p1 : a % 128 = b % 128 := by omega
    have p2 : a / 4096 % 8 = b / 4096 % 8 := by omega
    rcases hf with rfl | rfl | rfl | rfl | rfl
    · have g1 : bitsOf a 7 5 = bitsOf b 7 5 := h1
      have g2 : bitsOf a 15 5 = bitsOf b 15 5 := h2
      have g4 := ext12_inj _ _ (b12 a 20).1 (b12 a 20).2 (b12 b 20).1 (b12 b 20).2 h4
      rw [jn_i a ha0 ha1, jn_i b hb0 hb1, g1, g2, g4, p1, p2]
    · have g2 : bitsOf a 15 5 = bitsOf b 15 5 := h2
      have g3 : bitsOf a 20 5 = bitsOf b 20 5 := h3
      obtain ⟨e1, e2, e3, e4⟩ := lin_b _ _ _ _ _ _ _ _ (b1 a 31) (b1 a 7) (b6 a 25) (b4 a 8) (b1 b 31) (b1 b 7) (b6 b 25) (b4 b 8) h4
      rw [jn_b a ha0 ha1, jn_b b hb0 hb1, g2, g3, e1, e2, e3, e4, p1, p2]
    · have g2 : bitsOf a 15 5 = bitsOf b 15 5 := h2
      have g3 : bitsOf a 20 5 = bitsOf b 20 5 := h3
      obtain ⟨e1, e2⟩ := lin_s _ _ _ _ (b7 a 25) (b5 a 7) (b7 b 25) (b5 b 7) h4
      rw [jn_s a ha0 ha1, jn_s b hb0 hb1, g2, g3, e1, e2, p1, p2]
    · have g1 : bitsOf a 7 5 = bitsOf b 7 5 := h1
      have g2 : bitsOf a 15 5 = bitsOf b 15 5 := h2
      have g5 : bitsOf a 20 12 = bitsOf b 20 12 := h5
      rw [jn_i a ha0 ha1, jn_i b hb0 hb1, g1, g2, g5, p1, p2]
    · have g1 : bitsOf a 7 5 = bitsOf b 7 5 := h1
      have g4 : bitsOf a 15 5 = bitsOf b 15 5 := h4
      have g5 : bitsOf a 20 12 = bitsOf b 20 12 := h5
      rw [jn_i a ha0 ha1, jn_i b hb0 hb1, g1, g4, g5, p1, p2]
  · rw [u32_andfe a ha0 ha1, u32_andfe b hb0 hb1] at hp
    have p1 : a % 128 = b % 128 := by omega
    have p2 : a / 4096 % 8 = b / 4096 % 8 := by omega
    have p3 : a / 33554432 = b / 33554432 := by omega
    rcases hf with rfl | rfl
    · have g1 : bitsOf a 7 5 = bitsOf b 7 5 := h1
      have g2 : bitsOf a 15 5 = bitsOf b 15 5 := h2
      have g3 : bitsOf a 20 5 = bitsOf b 20 5 := h3
      rw [jn_r a ha0 ha1, jn_r b hb0 hb1, g1, g2, g3, p1, p2, p3]
    · have g1 : bitsOf a 7 5 = bitsOf b 7 5 := h1
      have g2 : bitsOf a 15 5 = bitsOf b 15 5 := h2
      have g4 : bitsOf a 20 5 = bitsOf b 20 5 := h4
      rw [jn_r a ha0 ha1, jn_r b hb0 hb1, g1, g2, g4, p1, p2, p3]
  · rw [u32_andff a ha0 ha1, u32_andff b hb0 hb1] at hp
    exact hp

/-- The instruction that a word is told as. -/
def insV (x : Int) : Value := .agg #[.int .i64 (kindOf x), .int .i64 (fldRd x (formZ (kindOf x))), .int .i64 (fldRs1 x (formZ (kindOf x))), .int .i64 (fldRs2 x (formZ (kindOf x))), .int .u32 (immOf x (formZ (kindOf x))), .int .i64 (fldCsr x (formZ (kindOf x)))]
end Go.Proofs.YtakomdopeadcjaaDoor
