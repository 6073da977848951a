/- Layer 4: an instruction's word is read as it (P4.3); a legal word, read, has that word. No program in sight. -/
import Derived.Test.YtlceglloikamnaaDoorEncDigs
namespace Go.Proofs.YtlceglloikamnaaDoor
open Go.RowKit
set_option linter.unusedVariables false

theorem mask_127 : ∀ k, k < 58 → k ≠ 0 → (formZ k = 1 ∨ formZ k = 2) → maskL.getD (k - 1) 0 = 127 := by decide +kernel
theorem mask_707f : ∀ k, k < 58 → k ≠ 0 → (formZ k = 3 ∨ formZ k = 4 ∨ formZ k = 5 ∨ formZ k = 8 ∨ formZ k = 9) → maskL.getD (k - 1) 0 = 28799 := by decide +kernel
theorem mask_fe : ∀ k, k < 58 → k ≠ 0 → (formZ k = 6 ∨ formZ k = 7) → maskL.getD (k - 1) 0 = 4261441663 := by decide +kernel
theorem mask_ff : ∀ k, k < 58 → k ≠ 0 → formZ k = 0 → maskL.getD (k - 1) 0 = 4294967295 := by decide +kernel

theorem sg_12 (n : Int) (h0 : 0 ≤ n) (h1 : n < 4294967296) (h : sgB n 2048 = true) : extOf (n % 4096) 12 = n := by
  have g : 0 - 2048 ≤ signedOf n ∧ signedOf n < 2048 := by simpa [sgB] using h
  unfold signedOf at g
  rw [ext_12]
  split at g <;> split <;> omega
theorem sg_13 (n : Int) (h0 : 0 ≤ n) (h1 : n < 4294967296) (h : sgB n 4096 = true) : extOf (n % 8192) 13 = n := by
  have g : 0 - 4096 ≤ signedOf n ∧ signedOf n < 4096 := by simpa [sgB] using h
  unfold signedOf at g
  rw [ext_13]
  split at g <;> split <;> omega
theorem sg_21 (n : Int) (h0 : 0 ≤ n) (h1 : n < 4294967296) (h : sgB n 1048576 = true) : extOf (n % 2097152) 21 = n := by
  have g : 0 - 1048576 ≤ signedOf n ∧ signedOf n < 1048576 := by simpa [sgB] using h
  unfold signedOf at g
  rw [ext_21]
  split at g <;> split <;> omega
theorem jn_2 (n : Int) (h : n % 2 = 0) : ((n / 1048576 % 2 * 256 + n / 4096 % 256) * 2 + n / 2048 % 2) * 2048 + n / 2 % 1024 * 2 = n % 2097152 := by
  have a : n / 2 % 1024 * 2 = n % 2048 := by omega
  have b : n / 2048 % 2 * 2048 + n % 2048 = n % 4096 := by omega
  have c : n / 4096 % 256 * 4096 + n % 4096 = n % 1048576 := by omega
  have d : n / 1048576 % 2 * 1048576 + n % 1048576 = n % 2097152 := by omega
  rw [← d, ← c, ← b, ← a]
  generalize n / 1048576 % 2 = p
  generalize n / 4096 % 256 = q
  generalize n / 2048 % 2 = r
  generalize n / 2 % 1024 = s
  omega
theorem jn_4 (n : Int) (h : n % 2 = 0) : ((n / 4096 % 2 * 2 + n / 2048 % 2) * 64 + n / 32 % 64) * 32 + n / 2 % 16 * 2 = n % 8192 := by
  have a : n / 2 % 16 * 2 = n % 32 := by omega
  have b : n / 32 % 64 * 32 + n % 32 = n % 2048 := by omega
  have c : n / 2048 % 2 * 2048 + n % 2048 = n % 4096 := by omega
  have d : n / 4096 % 2 * 4096 + n % 4096 = n % 8192 := by omega
  rw [← d, ← c, ← b, ← a]
  generalize n / 4096 % 2 = p
  generalize n / 2048 % 2 = q
  generalize n / 32 % 64 = r
  generalize n / 2 % 16 = s
  omega
theorem jn_5 (n : Int) : n / 32 % 128 * 32 + n % 32 = n % 4096 := by omega
theorem imm_ev {n h : Int} {c : Bool} (g : (evenB n && c) = true) : n % 2 = 0 ∧ c = true := by
  simp only [Bool.and_eq_true] at g
  exact ⟨by simpa [evenB] using g.1, g.2⟩

set_option maxHeartbeats 2000000 in
/-- P4.3, the first half. -/
theorem enc_read (k : Nat) (hk : k < 58) (hk0 : k ≠ 0) (rd rs1 rs2 imm csr : Int) (i0 : 0 ≤ imm) (i1 : imm < 4294967296) (hr : rightOf (formZ k) rd rs1 rs2 imm csr = true) :
    (0 ≤ encOf k rd rs1 rs2 imm csr ∧ encOf k rd rs1 rs2 imm csr < 4294967296) ∧ kindOf (encOf k rd rs1 rs2 imm csr) = k ∧ fldRd (encOf k rd rs1 rs2 imm csr) (formZ k) = rd ∧ fldRs1 (encOf k rd rs1 rs2 imm csr) (formZ k) = rs1 ∧ fldRs2 (encOf k rd rs1 rs2 imm csr) (formZ k) = rs2 ∧ immOf (encOf k rd rs1 rs2 imm csr) (formZ k) = imm ∧ fldCsr (encOf k rd rs1 rs2 imm csr) (formZ k) = csr := by
  obtain ⟨p1, p2, p3, p4, p5⟩ := right_parts _ _ _ _ _ _ hr
  have m0 := match_bd k hk hk0
  have n1 := match_p1 k hk hk0
  have n2 := match_p2 k hk hk0
  have n3 := match_p3 k hk hk0
  have k1 := mask_127 k hk hk0
  have k2 := mask_707f k hk hk0
  have k3 := mask_fe k hk hk0
  have k4 := mask_ff k hk hk0
  have hf := formZ_lt k hk
  have KH : ∀ y : Int, 0 ≤ y → y < 4294967296 → bits .and .u32 y (maskL.getD (k - 1) 0) = matchL.getD (k - 1) 0 → kindOf y = k := fun y h0 h1 h => by
    have := kind_of_hit y h0 h1 (k - 1) (by omega) h
    omega
  clear hr
  unfold encOf headOf
  generalize maskL.getD (k - 1) 0 = M at *
  generalize matchL.getD (k - 1) 0 = m at *
  generalize formZ k = f at *
  rcases form10 hf with rfl | rfl | rfl | rfl | rfl | rfl | rfl | rfl | rfl | rfl
  · have rd_ := partB_n p1
    have rs1_ := partB_n p2
    have rs2_ := partB_n p3
    have csr_ := partB_n p4
    have im_ : imm = 0 := by simpa [immB] using p5
    subst rd_ rs1_ rs2_ csr_ im_
    rw [show m + 0 * 128 + 0 * 32768 + 0 * 1048576 + 0 * 1048576 + immPut 0 0 = m from by rw [show immPut 0 0 = 0 from rfl]; omega]
    refine ⟨m0, KH m m0.1 m0.2 ?_, rfl, rfl, rfl, rfl, rfl⟩
    rw [k4 rfl]; exact u32_andff m m0.1 m0.2
  · have rd_ := partB_y p1
    have rs1_ := partB_n p2
    have rs2_ := partB_n p3
    have csr_ := partB_n p4
    subst rs1_
    subst rs2_
    subst csr_
    obtain ⟨m7, hm⟩ : ∃ m7, m = m7 := ⟨m, rfl⟩
    have hm7 : 0 ≤ m7 ∧ m7 < 128 := by have := n1 (by simp); omega
    rw [show immPut 1 imm = imm / 4096 % 1048576 * 4096 from rfl]
    generalize hy : m + rd * 128 + 0 * 32768 + 0 * 1048576 + 0 * 1048576 + imm / 4096 % 1048576 * 4096 = y
    obtain ⟨y0, y1, e_m7, e_rd, e_u⟩ := digs_1 y m7 rd (imm / 4096 % 1048576) (by rw [← hy, hm]; omega) hm7 (by omega) (by omega)
    refine ⟨⟨y0, y1⟩, ?_, ?_, ?_, ?_, ?_, ?_⟩
    · refine KH y y0 y1 ?_
      rw [k1 (by simp), u32_and7 y y0 y1, hm]
      exact e_m7
    · exact e_rd
    · rfl
    · rfl
    · show y / 4096 % 1048576 * 4096 = imm
      have q : imm % 4096 = 0 := by simpa [immB] using p5
      rw [e_u]; omega
    · rfl
  · have rd_ := partB_y p1
    have rs1_ := partB_n p2
    have rs2_ := partB_n p3
    have csr_ := partB_n p4
    subst rs1_
    subst rs2_
    subst csr_
    obtain ⟨m7, hm⟩ : ∃ m7, m = m7 := ⟨m, rfl⟩
    have hm7 : 0 ≤ m7 ∧ m7 < 128 := by have := n1 (by simp); omega
    rw [show immPut 2 imm = imm / 1048576 % 2 * 2147483648 + imm / 2 % 1024 * 2097152 + imm / 2048 % 2 * 1048576 + imm / 4096 % 256 * 4096 from rfl]
    generalize hy : m + rd * 128 + 0 * 32768 + 0 * 1048576 + 0 * 1048576 + (imm / 1048576 % 2 * 2147483648 + imm / 2 % 1024 * 2097152 + imm / 2048 % 2 * 1048576 + imm / 4096 % 256 * 4096) = y
    obtain ⟨y0, y1, e_m7, e_rd, e_c, e_b, e_d, e_a⟩ := digs_2 y m7 rd (imm / 4096 % 256) (imm / 2048 % 2) (imm / 2 % 1024) (imm / 1048576 % 2) (by rw [← hy, hm]; omega) hm7 (by omega) (by omega) (by omega) (by omega) (by omega)
    refine ⟨⟨y0, y1⟩, ?_, ?_, ?_, ?_, ?_, ?_⟩
    · refine KH y y0 y1 ?_
      rw [k1 (by simp), u32_and7 y y0 y1, hm]
      exact e_m7
    · exact e_rd
    · rfl
    · rfl
    · obtain ⟨q1, q2⟩ := imm_ev (h := 0) (show (evenB imm && sgB imm 1048576) = true from p5)
      show extOf (((y / 2147483648 % 2 * 256 + y / 4096 % 256) * 2 + y / 1048576 % 2) * 2048 + y / 2097152 % 1024 * 2) 21 = imm
      rw [e_a, e_c, e_b, e_d, jn_2 imm q1]
      exact sg_21 imm i0 i1 q2
    · rfl
  · have rd_ := partB_y p1
    have rs1_ := partB_y p2
    have rs2_ := partB_n p3
    have csr_ := partB_n p4
    subst rs2_
    subst csr_
    obtain ⟨m3, m7, hm, hm3, hm7⟩ := msp2 m m0.1 (n2 (by simp))
    rw [show immPut 3 imm = imm % 4096 * 1048576 from rfl]
    generalize hy : m + rd * 128 + rs1 * 32768 + 0 * 1048576 + 0 * 1048576 + imm % 4096 * 1048576 = y
    obtain ⟨y0, y1, e_m7, e_rd, e_m3, e_rs1, e_i⟩ := digs_3 y m7 rd m3 rs1 (imm % 4096) (by rw [← hy, hm]; omega) hm7 (by omega) hm3 (by omega) (by omega)
    refine ⟨⟨y0, y1⟩, ?_, ?_, ?_, ?_, ?_, ?_⟩
    · refine KH y y0 y1 ?_
      rw [k2 (by simp), u32_and707f y y0 y1, e_m3, e_m7, hm]
    · exact e_rd
    · exact e_rs1
    · rfl
    · show extOf (y / 1048576 % 4096) 12 = imm
      rw [e_i]
      exact sg_12 imm i0 i1 p5
    · rfl
  · have rd_ := partB_n p1
    have rs1_ := partB_y p2
    have rs2_ := partB_y p3
    have csr_ := partB_n p4
    subst rd_
    subst csr_
    obtain ⟨m3, m7, hm, hm3, hm7⟩ := msp2 m m0.1 (n2 (by simp))
    rw [show immPut 4 imm = imm / 4096 % 2 * 2147483648 + imm / 32 % 64 * 33554432 + imm / 2 % 16 * 256 + imm / 2048 % 2 * 128 from rfl]
    generalize hy : m + 0 * 128 + rs1 * 32768 + rs2 * 1048576 + 0 * 1048576 + (imm / 4096 % 2 * 2147483648 + imm / 32 % 64 * 33554432 + imm / 2 % 16 * 256 + imm / 2048 % 2 * 128) = y
    obtain ⟨y0, y1, e_m7, e_b, e_d, e_m3, e_rs1, e_rs2, e_c, e_a⟩ := digs_4 y m7 (imm / 2048 % 2) (imm / 2 % 16) m3 rs1 rs2 (imm / 32 % 64) (imm / 4096 % 2) (by rw [← hy, hm]; omega) hm7 (by omega) (by omega) hm3 (by omega) (by omega) (by omega) (by omega)
    refine ⟨⟨y0, y1⟩, ?_, ?_, ?_, ?_, ?_, ?_⟩
    · refine KH y y0 y1 ?_
      rw [k2 (by simp), u32_and707f y y0 y1, e_m3, e_m7, hm]
    · rfl
    · exact e_rs1
    · exact e_rs2
    · obtain ⟨q1, q2⟩ := imm_ev (h := 0) (show (evenB imm && sgB imm 4096) = true from p5)
      show extOf (((y / 2147483648 % 2 * 2 + y / 128 % 2) * 64 + y / 33554432 % 64) * 32 + y / 256 % 16 * 2) 13 = imm
      rw [e_a, e_b, e_c, e_d, jn_4 imm q1]
      exact sg_13 imm i0 i1 q2
    · rfl
  · have rd_ := partB_n p1
    have rs1_ := partB_y p2
    have rs2_ := partB_y p3
    have csr_ := partB_n p4
    subst rd_
    subst csr_
    obtain ⟨m3, m7, hm, hm3, hm7⟩ := msp2 m m0.1 (n2 (by simp))
    rw [show immPut 5 imm = imm / 32 % 128 * 33554432 + imm % 32 * 128 from rfl]
    generalize hy : m + 0 * 128 + rs1 * 32768 + rs2 * 1048576 + 0 * 1048576 + (imm / 32 % 128 * 33554432 + imm % 32 * 128) = y
    obtain ⟨y0, y1, e_m7, e_d, e_m3, e_rs1, e_rs2, e_c⟩ := digs_5 y m7 (imm % 32) m3 rs1 rs2 (imm / 32 % 128) (by rw [← hy, hm]; omega) hm7 (by omega) hm3 (by omega) (by omega) (by omega)
    refine ⟨⟨y0, y1⟩, ?_, ?_, ?_, ?_, ?_, ?_⟩
    · refine KH y y0 y1 ?_
      rw [k2 (by simp), u32_and707f y y0 y1, e_m3, e_m7, hm]
    · rfl
    · exact e_rs1
    · exact e_rs2
    · show extOf (y / 33554432 % 128 * 32 + y / 128 % 32) 12 = imm
      rw [e_c, e_d, jn_5 imm]
      exact sg_12 imm i0 i1 p5
    · rfl
  · have rd_ := partB_y p1
    have rs1_ := partB_y p2
    have rs2_ := partB_y p3
    have csr_ := partB_n p4
    subst csr_
    obtain ⟨m25, m3, m7, hm, hm25, hm3, hm7⟩ := msp3 m m0.1 m0.2 (n3 (by simp))
    rw [show immPut 6 imm = 0 from rfl]
    generalize hy : m + rd * 128 + rs1 * 32768 + rs2 * 1048576 + 0 * 1048576 + 0 = y
    obtain ⟨y0, y1, e_m7, e_rd, e_m3, e_rs1, e_rs2, e_m25⟩ := digs_6 y m7 rd m3 rs1 rs2 m25 (by rw [← hy, hm]; omega) hm7 (by omega) hm3 (by omega) (by omega) hm25
    refine ⟨⟨y0, y1⟩, ?_, ?_, ?_, ?_, ?_, ?_⟩
    · refine KH y y0 y1 ?_
      rw [k3 (by simp), u32_andfe y y0 y1, e_m3, e_m7, hm]
      omega
    · exact e_rd
    · exact e_rs1
    · exact e_rs2
    · have q : imm = 0 := by simpa [immB] using p5
      rw [q]; rfl
    · rfl
  · have rd_ := partB_y p1
    have rs1_ := partB_y p2
    have rs2_ := partB_n p3
    have csr_ := partB_n p4
    subst rs2_
    subst csr_
    obtain ⟨m25, m3, m7, hm, hm25, hm3, hm7⟩ := msp3 m m0.1 m0.2 (n3 (by simp))
    rw [show immPut 7 imm = imm % 32 * 1048576 from rfl]
    generalize hy : m + rd * 128 + rs1 * 32768 + 0 * 1048576 + 0 * 1048576 + imm % 32 * 1048576 = y
    obtain ⟨y0, y1, e_m7, e_rd, e_m3, e_rs1, e_i, e_m25⟩ := digs_7 y m7 rd m3 rs1 (imm % 32) m25 (by rw [← hy, hm]; omega) hm7 (by omega) hm3 (by omega) (by omega) hm25
    refine ⟨⟨y0, y1⟩, ?_, ?_, ?_, ?_, ?_, ?_⟩
    · refine KH y y0 y1 ?_
      rw [k3 (by simp), u32_andfe y y0 y1, e_m3, e_m7, hm]
      omega
    · exact e_rd
    · exact e_rs1
    · rfl
    · have q : imm < 32 := by simpa [immB] using p5
      show y / 1048576 % 32 = imm
      rw [e_i]; omega
    · rfl
  · have rd_ := partB_y p1
    have rs1_ := partB_y p2
    have rs2_ := partB_n p3
    have csr_ := partB_y p4
    subst rs2_
    obtain ⟨m3, m7, hm, hm3, hm7⟩ := msp2 m m0.1 (n2 (by simp))
    rw [show immPut 8 imm = 0 from rfl]
    generalize hy : m + rd * 128 + rs1 * 32768 + 0 * 1048576 + csr * 1048576 + 0 = y
    obtain ⟨y0, y1, e_m7, e_rd, e_m3, e_rs1, e_csr⟩ := digs_8 y m7 rd m3 rs1 csr (by rw [← hy, hm]; omega) hm7 (by omega) hm3 (by omega) (by omega)
    refine ⟨⟨y0, y1⟩, ?_, ?_, ?_, ?_, ?_, ?_⟩
    · refine KH y y0 y1 ?_
      rw [k2 (by simp), u32_and707f y y0 y1, e_m3, e_m7, hm]
    · exact e_rd
    · exact e_rs1
    · rfl
    · have q : imm = 0 := by simpa [immB] using p5
      rw [q]; rfl
    · exact e_csr
  · have rd_ := partB_y p1
    have rs1_ := partB_n p2
    have rs2_ := partB_n p3
    have csr_ := partB_y p4
    subst rs1_
    subst rs2_
    obtain ⟨m3, m7, hm, hm3, hm7⟩ := msp2 m m0.1 (n2 (by simp))
    rw [show immPut 9 imm = imm % 32 * 32768 from rfl]
    generalize hy : m + rd * 128 + 0 * 32768 + 0 * 1048576 + csr * 1048576 + imm % 32 * 32768 = y
    obtain ⟨y0, y1, e_m7, e_rd, e_m3, e_i, e_csr⟩ := digs_9 y m7 rd m3 (imm % 32) csr (by rw [← hy, hm]; omega) hm7 (by omega) hm3 (by omega) (by omega)
    refine ⟨⟨y0, y1⟩, ?_, ?_, ?_, ?_, ?_, ?_⟩
    · refine KH y y0 y1 ?_
      rw [k2 (by simp), u32_and707f y y0 y1, e_m3, e_m7, hm]
    · exact e_rd
    · rfl
    · rfl
    · have q : imm < 32 := by simpa [immB] using p5
      show y / 32768 % 32 = imm
      rw [e_i]; omega
    · exact e_csr

/-- P4.3, the second half. -/
theorem enc_of_read (x : Int) (h0 : 0 ≤ x) (h1 : x < 4294967296) (hk : kindOf x ≠ 0) :
    encOf (kindOf x) (fldRd x (formZ (kindOf x))) (fldRs1 x (formZ (kindOf x))) (fldRs2 x (formZ (kindOf x))) (immOf x (formZ (kindOf x))) (fldCsr x (formZ (kindOf x))) = x := by
  have hl := kind_lt x
  have hi := immOf_bd x (formZ (kindOf x))
  obtain ⟨⟨y0, y1⟩, e0, e1, e2, e3, e4, e5⟩ := enc_read (kindOf x) hl hk _ _ _ _ _ hi.1 hi.2 (fields_right x (formZ (kindOf x)) (formZ_lt _ hl))
  refine words_one _ x y0 y1 h0 h1 ?_ e0 ?_ ?_ ?_ ?_ ?_
  · rw [e0]; exact hk
  · rw [e0]; exact e1
  · rw [e0]; exact e2
  · rw [e0]; exact e3
  · rw [e0]; exact e4
  · rw [e0]; exact e5
end Go.Proofs.YtlceglloikamnaaDoor
