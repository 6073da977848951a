/- My texts EncBackMath, EncAny, AsmLaid, AsmProg, AsmGoD, AsmGoX, AsmGoY, AsmGoW, AsmGoV, AsmGoS, bound into one. -/
import Derived.Test.YthgolbmngjdbeaaGreatDoorB6
import Derived.Test.YthgolbmngjdbeaaGreatDoorB5
import Derived.Maps.OwnSet
import Derived.Deep.AppendLies
import Derived.Deep.RegionLaw
import Derived.Test.YthgolbmngjdbeaaGreatDoorB2
import Derived.Test.YthgolbmngjdbeaaGreatDoorB3
/- Layer 4: an instruction's word is read as it (P4.3); a legal word, read, has that word. No program in sight. -/
namespace Go.Proofs.YthgolbmngjdbeaaGreatDoor
open Go.RowKit
set_option linter.unusedVariables false

theorem mask_127 : ∀ k, k < 58 → k ≠ 0 → (formZ k = 1 ∨ formZ k = 2) → maskL.getD (k - 1) 0 = 127 := by decide +kernel
theorem mask_707f : ∀ k, k < 58 → k ≠ 0 → (formZ k = 3 ∨ formZ k = 4 ∨ formZ k = 5 ∨ formZ k = 8 ∨ formZ k = 9) → maskL.getD (k - 1) 0 = 28799 := by decide +kernel
theorem mask_fe : ∀ k, k < 58 → k ≠ 0 → (formZ k = 6 ∨ formZ k = 7) → maskL.getD (k - 1) 0 = 4261441663 := by decide +kernel
theorem mask_ff : ∀ k, k < 58 → k ≠ 0 → formZ k = 0 → maskL.getD (k - 1) 0 = 4294967295 := by decide +kernel

theorem sg_12 (n : Int) (h0 : 0 ≤ n) (h1 : n < 4294967296) (h : sgB n 2048 = true) : extOf (n % 4096) 12 = n := by
  have g : 0 - 2048 ≤ signedOf n ∧ signedOf n < 2048 := by simpa [sgB] using h
  unfold signedOf at g
  rw [ext_12]
  split at g <;> split <;> omega
theorem sg_13 (n : Int) (h0 : 0 ≤ n) (h1 : n < 4294967296) (h : sgB n 4096 = true) : extOf (n % 8192) 13 = n := by
  have g : 0 - 4096 ≤ signedOf n ∧ signedOf n < 4096 := by simpa [sgB] using h
  unfold signedOf at g
  rw [ext_13]
  split at g <;> split <;> omega
theorem sg_21 (n : Int) (h0 : 0 ≤ n) (h1 : n < 4294967296) (h : sgB n 1048576 = true) : extOf (n % 2097152) 21 = n := by
  have g : 0 - 1048576 ≤ signedOf n ∧ signedOf n < 1048576 := by simpa [sgB] using h
  unfold signedOf at g
  rw [ext_21]
  split at g <;> split <;> omega
theorem jn_2 (n : Int) (h : n % 2 = 0) : ((n / 1048576 % 2 * 256 + n / 4096 % 256) * 2 + n / 2048 % 2) * 2048 + n / 2 % 1024 * 2 = n % 2097152 := by
  have a : n / 2 % 1024 * 2 = n % 2048 := by omega
  have b : n / 2048 % 2 * 2048 + n % 2048 = n % 4096 := by omega
  have c : n / 4096 % 256 * 4096 + n % 4096 = n % 1048576 := by omega
  have d : n / 1048576 % 2 * 1048576 + n % 1048576 = n % 2097152 := by omega
  rw [← d, ← c, ← b, ← a]
  generalize n / 1048576 % 2 = p
  generalize n / 4096 % 256 = q
  generalize n / 2048 % 2 = r
  generalize n / 2 % 1024 = s
  omega
theorem jn_4 (n : Int) (h : n % 2 = 0) : ((n / 4096 % 2 * 2 + n / 2048 % 2) * 64 + n / 32 % 64) * 32 + n / 2 % 16 * 2 = n % 8192 := by
  have a : n / 2 % 16 * 2 = n % 32 := by omega
  have b : n / 32 % 64 * 32 + n % 32 = n % 2048 := by omega
  have c : n / 2048 % 2 * 2048 + n % 2048 = n % 4096 := by omega
  have d : n / 4096 % 2 * 4096 + n % 4096 = n % 8192 := by omega
  rw [← d, ← c, ← b, ← a]
  generalize n / 4096 % 2 = p
  generalize n / 2048 % 2 = q
  generalize n / 32 % 64 = r
  generalize n / 2 % 16 = s
  omega
theorem jn_5 (n : Int) : n / 32 % 128 * 32 + n % 32 = n % 4096 := by omega
theorem imm_ev {n h : Int} {c : Bool} (g : (evenB n && c) = true) : n % 2 = 0 ∧ c = true := by
  simp only [Bool.and_eq_true] at g
  exact ⟨by simpa [evenB] using g.1, g.2⟩

set_option maxHeartbeats 2000000 in
/-- P4.3, the first half. -/
theorem enc_read (k : Nat) (hk : k < 58) (hk0 : k ≠ 0) (rd rs1 rs2 imm csr : Int) (i0 : 0 ≤ imm) (i1 : imm < 4294967296) (hr : rightOf (formZ k) rd rs1 rs2 imm csr = true) :
    (0 ≤ encOf k rd rs1 rs2 imm csr ∧ encOf k rd rs1 rs2 imm csr < 4294967296) ∧ kindOf (encOf k rd rs1 rs2 imm csr) = k ∧ fldRd (encOf k rd rs1 rs2 imm csr) (formZ k) = rd ∧ fldRs1 (encOf k rd rs1 rs2 imm csr) (formZ k) = rs1 ∧ fldRs2 (encOf k rd rs1 rs2 imm csr) (formZ k) = rs2 ∧ immOf (encOf k rd rs1 rs2 imm csr) (formZ k) = imm ∧ fldCsr (encOf k rd rs1 rs2 imm csr) (formZ k) = csr := by
  obtain ⟨p1, p2, p3, p4, p5⟩ := right_parts _ _ _ _ _ _ hr
  have m0 := match_bd k hk hk0
  have n1 := match_p1 k hk hk0
  have n2 := match_p2 k hk hk0
  have n3 := match_p3 k hk hk0
  have k1 := mask_127 k hk hk0
  have k2 := mask_707f k hk hk0
  have k3 := mask_fe k hk hk0
  have k4 := mask_ff k hk hk0
  have hf := formZ_lt k hk
  have KH : ∀ y : Int, 0 ≤ y → y < 4294967296 → bits .and .u32 y (maskL.getD (k - 1) 0) = matchL.getD (k - 1) 0 → kindOf y = k := fun y h0 h1 h => by
    have := kind_of_hit y h0 h1 (k - 1) (by omega) h
    omega
  clear hr
  unfold encOf headOf
  generalize maskL.getD (k - 1) 0 = M at *
  generalize matchL.getD (k - 1) 0 = m at *
  generalize formZ k = f at *
  rcases form10 hf with rfl | rfl | rfl | rfl | rfl | rfl | rfl | rfl | rfl | rfl
  · have rd_ := partB_n p1
    have rs1_ := partB_n p2
    have rs2_ := partB_n p3
    have csr_ := partB_n p4
    have im_ : imm = 0 := by simpa [immB] using p5
    subst rd_ rs1_ rs2_ csr_ im_
    rw [show m + 0 * 128 + 0 * 32768 + 0 * 1048576 + 0 * 1048576 + immPut 0 0 = m from by rw [show immPut 0 0 = 0 from rfl]; omega]
    refine ⟨m0, KH m m0.1 m0.2 ?_, rfl, rfl, rfl, rfl, rfl⟩
    rw [k4 rfl]; exact u32_andff m m0.1 m0.2
  · have rd_ := partB_y p1
    have rs1_ := partB_n p2
    have rs2_ := partB_n p3
    have csr_ := partB_n p4
    subst rs1_
    subst rs2_
    subst csr_
    obtain ⟨m7, hm⟩ : ∃ m7, m = m7 := ⟨m, rfl⟩
    have hm7 : 0 ≤ m7 ∧ m7 < 128 := by have := n1 (by simp); omega
    rw [show immPut 1 imm = imm / 4096 % 1048576 * 4096 from rfl]
    generalize hy : m + rd * 128 + 0 * 32768 + 0 * 1048576 + 0 * 1048576 + imm / 4096 % 1048576 * 4096 = y
    obtain ⟨y0, y1, e_m7, e_rd, e_u⟩ := digs_1 y m7 rd (imm / 4096 % 1048576) (by rw [← hy, hm]; omega) hm7 (by omega) (by omega)
    refine ⟨⟨y0, y1⟩, ?_, ?_, ?_, ?_, ?_, ?_⟩
    · refine KH y y0 y1 ?_
      rw [k1 (by simp), u32_and7 y y0 y1, hm]
      exact e_m7
    · exact e_rd
    · rfl
    · rfl
    · show y / 4096 % 1048576 * 4096 = imm
      have q : imm % 4096 = 0 := by simpa [immB] using p5
      rw [e_u]; omega
    · rfl
  · have rd_ := partB_y p1
    have rs1_ := partB_n p2
    have rs2_ := partB_n p3
    have csr_ := partB_n p4
    subst rs1_
    subst rs2_
    subst csr_
    obtain ⟨m7, hm⟩ : ∃ m7, m = m7 := ⟨m, rfl⟩
    have hm7 : 0 ≤ m7 ∧ m7 < 128 := by have := n1 (by simp); omega
    rw [show immPut 2 imm = imm / 1048576 % 2 * 2147483648 + imm / 2 % 1024 * 2097152 + imm / 2048 % 2 * 1048576 + imm / 4096 % 256 * 4096 from rfl]
    generalize hy : m + rd * 128 + 0 * 32768 + 0 * 1048576 + 0 * 1048576 + (imm / 1048576 % 2 * 2147483648 + imm / 2 % 1024 * 2097152 + imm / 2048 % 2 * 1048576 + imm / 4096 % 256 * 4096) = y
    obtain ⟨y0, y1, e_m7, e_rd, e_c, e_b, e_d, e_a⟩ := digs_2 y m7 rd (imm / 4096 % 256) (imm / 2048 % 2) (imm / 2 % 1024) (imm / 1048576 % 2) (by rw [← hy, hm]; omega) hm7 (by omega) (by omega) (by omega) (by omega) (by omega)
    refine ⟨⟨y0, y1⟩, ?_, ?_, ?_, ?_, ?_, ?_⟩
    · refine KH y y0 y1 ?_
      rw [k1 (by simp), u32_and7 y y0 y1, hm]
      exact e_m7
    · exact e_rd
    · rfl
    · rfl
    · obtain ⟨q1, q2⟩ := imm_ev (h := 0) (show (evenB imm && sgB imm 1048576) = true from p5)
      show extOf (((y / 2147483648 % 2 * 256 + y / 4096 % 256) * 2 + y / 1048576 % 2) * 2048 + y / 2097152 % 1024 * 2) 21 = imm
      rw [e_a, e_c, e_b, e_d, jn_2 imm q1]
      exact sg_21 imm i0 i1 q2
    · rfl
  · have rd_ := partB_y p1
    have rs1_ := partB_y p2
    have rs2_ := partB_n p3
    have csr_ := partB_n p4
    subst rs2_
    subst csr_
    obtain ⟨m3, m7, hm, hm3, hm7⟩ := msp2 m m0.1 (n2 (by simp))
    rw [show immPut 3 imm = imm % 4096 * 1048576 from rfl]
    generalize hy : m + rd * 128 + rs1 * 32768 + 0 * 1048576 + 0 * 1048576 + imm % 4096 * 1048576 = y
    obtain ⟨y0, y1, e_m7, e_rd, e_m3, e_rs1, e_i⟩ := digs_3 y m7 rd m3 rs1 (imm % 4096) (by rw [← hy, hm]; omega) hm7 (by omega) hm3 (by omega) (by omega)
    refine ⟨⟨y0, y1⟩, ?_, ?_, ?_, ?_, ?_, ?_⟩
    · refine KH y y0 y1 ?_
      rw [k2 (by simp), u32_and707f y y0 y1, e_m3, e_m7, hm]
    · exact e_rd
    · exact e_rs1
    · rfl
    · show extOf (y / 1048576 % 4096) 12 = imm
      rw [e_i]
      exact sg_12 imm i0 i1 p5
    · rfl
  · have rd_ := partB_n p1
    have rs1_ := partB_y p2
    have rs2_ := partB_y p3
    have csr_ := partB_n p4
    subst rd_
    subst csr_
    obtain ⟨m3, m7, hm, hm3, hm7⟩ := msp2 m m0.1 (n2 (by simp))
    rw [show immPut 4 imm = imm / 4096 % 2 * 2147483648 + imm / 32 % 64 * 33554432 + imm / 2 % 16 * 256 + imm / 2048 % 2 * 128 from rfl]
    generalize hy : m + 0 * 128 + rs1 * 32768 + rs2 * 1048576 + 0 * 1048576 + (imm / 4096 % 2 * 2147483648 + imm / 32 % 64 * 33554432 + imm / 2 % 16 * 256 + imm / 2048 % 2 * 128) = y
    obtain ⟨y0, y1, e_m7, e_b, e_d, e_m3, e_rs1, e_rs2, e_c, e_a⟩ := digs_4 y m7 (imm / 2048 % 2) (imm / 2 % 16) m3 rs1 rs2 (imm / 32 % 64) (imm / 4096 % 2) (by rw [← hy, hm]; omega) hm7 (by omega) (by omega) hm3 (by omega) (by omega) (by omega) (by omega)
    refine ⟨⟨y0, y1⟩, ?_, ?_, ?_, ?_, ?_, ?_⟩
    · refine KH y y0 y1 ?_
      rw [k2 (by simp), u32_and707f y y0 y1, e_m3, e_m7, hm]
    · rfl
    · exact e_rs1
    · exact e_rs2
    · obtain ⟨q1, q2⟩ := imm_ev (h := 0) (show (evenB imm && sgB imm 4096) = true from p5)
      show extOf (((y / 2147483648 % 2 * 2 + y / 128 % 2) * 64 + y / 33554432 % 64) * 32 + y / 256 % 16 * 2) 13 = imm
      rw [e_a, e_b, e_c, e_d, jn_4 imm q1]
      exact sg_13 imm i0 i1 q2
    · rfl
  · have rd_ := partB_n p1
    have rs1_ := partB_y p2
    have rs2_ := partB_y p3
    have csr_ := partB_n p4
    subst rd_
    subst csr_
    obtain ⟨m3, m7, hm, hm3, hm7⟩ := msp2 m m0.1 (n2 (by simp))
    rw [show immPut 5 imm = imm / 32 % 128 * 33554432 + imm % 32 * 128 from rfl]
    generalize hy : m + 0 * 128 + rs1 * 32768 + rs2 * 1048576 + 0 * 1048576 + (imm / 32 % 128 * 33554432 + imm % 32 * 128) = y
    obtain ⟨y0, y1, e_m7, e_d, e_m3, e_rs1, e_rs2, e_c⟩ := digs_5 y m7 (imm % 32) m3 rs1 rs2 (imm / 32 % 128) (by rw [← hy, hm]; omega) hm7 (by omega) hm3 (by omega) (by omega) (by omega)
    refine ⟨⟨y0, y1⟩, ?_, ?_, ?_, ?_, ?_, ?_⟩
    · refine KH y y0 y1 ?_
      rw [k2 (by simp), u32_and707f y y0 y1, e_m3, e_m7, hm]
    · rfl
    · exact e_rs1
    · exact e_rs2
    · show extOf (y / 33554432 % 128 * 32 + y / 128 % 32) 12 = imm
      rw [e_c, e_d, jn_5 imm]
      exact sg_12 imm i0 i1 p5
    · rfl
  · have rd_ := partB_y p1
    have rs1_ := partB_y p2
    have rs2_ := partB_y p3
    have csr_ := partB_n p4
    subst csr_
    obtain ⟨m25, m3, m7, hm, hm25, hm3, hm7⟩ := msp3 m m0.1 m0.2 (n3 (by simp))
    rw [show immPut 6 imm = 0 from rfl]
    generalize hy : m + rd * 128 + rs1 * 32768 + rs2 * 1048576 + 0 * 1048576 + 0 = y
    obtain ⟨y0, y1, e_m7, e_rd, e_m3, e_rs1, e_rs2, e_m25⟩ := digs_6 y m7 rd m3 rs1 rs2 m25 (by rw [← hy, hm]; omega) hm7 (by omega) hm3 (by omega) (by omega) hm25
    refine ⟨⟨y0, y1⟩, ?_, ?_, ?_, ?_, ?_, ?_⟩
    · refine KH y y0 y1 ?_
      rw [k3 (by simp), u32_andfe y y0 y1, e_m3, e_m7, hm]
      omega
    · exact e_rd
    · exact e_rs1
    · exact e_rs2
    · have q : imm = 0 := by simpa [immB] using p5
      rw [q]; rfl
    · rfl
  · have rd_ := partB_y p1
    have rs1_ := partB_y p2
    have rs2_ := partB_n p3
    have csr_ := partB_n p4
    subst rs2_
    subst csr_
    obtain ⟨m25, m3, m7, hm, hm25, hm3, hm7⟩ := msp3 m m0.1 m0.2 (n3 (by simp))
    rw [show immPut 7 imm = imm % 32 * 1048576 from rfl]
    generalize hy : m + rd * 128 + rs1 * 32768 + 0 * 1048576 + 0 * 1048576 + imm % 32 * 1048576 = y
    obtain ⟨y0, y1, e_m7, e_rd, e_m3, e_rs1, e_i, e_m25⟩ := digs_7 y m7 rd m3 rs1 (imm % 32) m25 (by rw [← hy, hm]; omega) hm7 (by omega) hm3 (by omega) (by omega) hm25
    refine ⟨⟨y0, y1⟩, ?_, ?_, ?_, ?_, ?_, ?_⟩
    · refine KH y y0 y1 ?_
      rw [k3 (by simp), u32_andfe y y0 y1, e_m3, e_m7, hm]
      omega
    · exact e_rd
    · exact e_rs1
    · rfl
    · have q : imm < 32 := by simpa [immB] using p5
      show y / 1048576 % 32 = imm
      rw [e_i]; omega
    · rfl
  · have rd_ := partB_y p1
    have rs1_ := partB_y p2
    have rs2_ := partB_n p3
    have csr_ := partB_y p4
    subst rs2_
    obtain ⟨m3, m7, hm, hm3, hm7⟩ := msp2 m m0.1 (n2 (by simp))
    rw [show immPut 8 imm = 0 from rfl]
    generalize hy : m + rd * 128 + rs1 * 32768 + 0 * 1048576 + csr * 1048576 + 0 = y
    obtain ⟨y0, y1, e_m7, e_rd, e_m3, e_rs1, e_csr⟩ := digs_8 y m7 rd m3 rs1 csr (by rw [← hy, hm]; omega) hm7 (by omega) hm3 (by omega) (by omega)
    refine ⟨⟨y0, y1⟩, ?_, ?_, ?_, ?_, ?_, ?_⟩
    · refine KH y y0 y1 ?_
      rw [k2 (by simp), u32_and707f y y0 y1, e_m3, e_m7, hm]
    · exact e_rd
    · exact e_rs1
    · rfl
    · have q : imm = 0 := by simpa [immB] using p5
      rw [q]; rfl
    · exact e_csr
  · have rd_ := partB_y p1
    have rs1_ := partB_n p2
    have rs2_ := partB_n p3
    have csr_ := partB_y p4
    subst rs1_
    subst rs2_
    obtain ⟨m3, m7, hm, hm3, hm7⟩ := msp2 m m0.1 (n2 (by simp))
    rw [show immPut 9 imm = imm % 32 * 32768 from rfl]
    generalize hy : m + rd * 128 + 0 * 32768 + 0 * 1048576 + csr * 1048576 + imm % 32 * 32768 = y
    obtain ⟨y0, y1, e_m7, e_rd, e_m3, e_i, e_csr⟩ := digs_9 y m7 rd m3 (imm % 32) csr (by rw [← hy, hm]; omega) hm7 (by omega) hm3 (by omega) (by omega)
    refine ⟨⟨y0, y1⟩, ?_, ?_, ?_, ?_, ?_, ?_⟩
    · refine KH y y0 y1 ?_
      rw [k2 (by simp), u32_and707f y y0 y1, e_m3, e_m7, hm]
    · exact e_rd
    · rfl
    · rfl
    · have q : imm < 32 := by simpa [immB] using p5
      show y / 32768 % 32 = imm
      rw [e_i]; omega
    · exact e_csr

/-- P4.3, the second half. -/
theorem enc_of_read (x : Int) (h0 : 0 ≤ x) (h1 : x < 4294967296) (hk : kindOf x ≠ 0) :
    encOf (kindOf x) (fldRd x (formZ (kindOf x))) (fldRs1 x (formZ (kindOf x))) (fldRs2 x (formZ (kindOf x))) (immOf x (formZ (kindOf x))) (fldCsr x (formZ (kindOf x))) = x := by
  have hl := kind_lt x
  have hi := immOf_bd x (formZ (kindOf x))
  obtain ⟨⟨y0, y1⟩, e0, e1, e2, e3, e4, e5⟩ := enc_read (kindOf x) hl hk _ _ _ _ _ hi.1 hi.2 (fields_right x (formZ (kindOf x)) (formZ_lt _ hl))
  refine words_one _ x y0 y1 h0 h1 ?_ e0 ?_ ?_ ?_ ?_ ?_
  · rw [e0]; exact hk
  · rw [e0]; exact e1
  · rw [e0]; exact e2
  · rw [e0]; exact e3
  · rw [e0]; exact e4
  · rw [e0]; exact e5
end Go.Proofs.YthgolbmngjdbeaaGreatDoor

/- Layer 4: Encode and the document's own, of any instruction, by one test; awake. -/
namespace Go.Proofs.YthgolbmngjdbeaaGreatDoor
open Go.RowKit
set_option linter.unusedVariables false

theorem renc_yes (j : Nat) (rd rs1 rs2 imm csr : Int) (w : World) (hj : j < 57) (i0 : 0 ≤ imm) (i1 : imm < 4294967296) (hr : rightOf (formZ (j + 1)) rd rs1 rs2 imm csr = true) :
    Calls Tryz.prog 32 #[.agg #[.int .i64 ((j : Int) + 1), .int .i64 rd, .int .i64 rs1, .int .i64 rs2, .int .u32 imm, .int .i64 csr]] w fun e w' => e = .returned (.tuple #[.int .u32 (encOf (j + 1) rd rs1 rs2 imm csr), .bool true]) ∧ Below w.heap.size w w' := by
  rcases form10 (formZ_lt (j + 1) (by omega)) with hz | hz | hz | hz | hz | hz | hz | hz | hz | hz
  · exact renc_0 j hz rd rs1 rs2 imm csr w hj i0 i1 hr
  · exact renc_1 j hz rd rs1 rs2 imm csr w hj i0 i1 hr
  · exact renc_2 j hz rd rs1 rs2 imm csr w hj i0 i1 hr
  · exact renc_3 j hz rd rs1 rs2 imm csr w hj i0 i1 hr
  · exact renc_4 j hz rd rs1 rs2 imm csr w hj i0 i1 hr
  · exact renc_5 j hz rd rs1 rs2 imm csr w hj i0 i1 hr
  · exact renc_6 j hz rd rs1 rs2 imm csr w hj i0 i1 hr
  · exact renc_7 j hz rd rs1 rs2 imm csr w hj i0 i1 hr
  · exact renc_8 j hz rd rs1 rs2 imm csr w hj i0 i1 hr
  · exact renc_9 j hz rd rs1 rs2 imm csr w hj i0 i1 hr

/-- Has it a word? Which? -/
def okB (op rd rs1 rs2 imm csr : Int) : Bool := decide (1 ≤ op ∧ op < 58) && rightOf (formZ op.toNat) rd rs1 rs2 imm csr
def wordOf (op rd rs1 rs2 imm csr : Int) : Int := encOf op.toNat rd rs1 rs2 imm csr

theorem okB_t {op rd rs1 rs2 imm csr : Int} (h : okB op rd rs1 rs2 imm csr = true) : ∃ j : Nat, op = (j : Int) + 1 ∧ j < 57 ∧ op.toNat = j + 1 ∧ rightOf (formZ (j + 1)) rd rs1 rs2 imm csr = true := by
  unfold okB at h
  simp only [Bool.and_eq_true, decide_eq_true_eq] at h
  obtain ⟨⟨h1, h2⟩, h3⟩ := h
  have e : op.toNat = (op - 1).toNat + 1 := by omega
  refine ⟨(op - 1).toNat, by omega, by omega, e, ?_⟩
  rw [← e]; exact h3
theorem okB_f {op rd rs1 rs2 imm csr : Int} (h : okB op rd rs1 rs2 imm csr = false) : ¬ (1 ≤ op ∧ op < 58) ∨ ∃ k : Nat, op = k ∧ k < 58 ∧ k ≠ 0 ∧ rightOf (formZ k) rd rs1 rs2 imm csr = false := by
  by_cases c : 1 ≤ op ∧ op < 58
  · refine .inr ⟨op.toNat, by omega, by omega, by omega, ?_⟩
    unfold okB at h
    rw [decide_eq_true c, Bool.true_and] at h
    exact h
  · exact .inl c

theorem word_bd {op rd rs1 rs2 imm csr : Int} (i0 : 0 ≤ imm) (i1 : imm < 4294967296) (h : okB op rd rs1 rs2 imm csr = true) : 0 ≤ wordOf op rd rs1 rs2 imm csr ∧ wordOf op rd rs1 rs2 imm csr < 4294967296 := by
  obtain ⟨j, e, hj, et, hr⟩ := okB_t h
  unfold wordOf
  rw [et]
  exact (enc_read (j + 1) (by omega) (by omega) rd rs1 rs2 imm csr i0 i1 hr).1

theorem ins_back {op rd rs1 rs2 imm csr : Int} (i0 : 0 ≤ imm) (i1 : imm < 4294967296) (h : okB op rd rs1 rs2 imm csr = true) : insV (wordOf op rd rs1 rs2 imm csr) = .agg #[.int .i64 op, .int .i64 rd, .int .i64 rs1, .int .i64 rs2, .int .u32 imm, .int .i64 csr] := by
  obtain ⟨j, e, hj, et, hr⟩ := okB_t h
  obtain ⟨_, e0, e1, e2, e3, e4, e5⟩ := enc_read (j + 1) (by omega) (by omega) rd rs1 rs2 imm csr i0 i1 hr
  unfold insV wordOf
  rw [et, e0, e1, e2, e3, e4, e5, e]
  rfl

theorem enc_t (op rd rs1 rs2 imm csr : Int) (w : World) (i0 : 0 ≤ imm) (i1 : imm < 4294967296) (h : okB op rd rs1 rs2 imm csr = true) (tf : FormTab w) (tm : EncTab w) :
    Calls Tryz.prog 53 #[.agg #[.int .i64 op, .int .i64 rd, .int .i64 rs1, .int .i64 rs2, .int .u32 imm, .int .i64 csr]] w fun e w' => e = .returned (.tuple #[.int .u32 (wordOf op rd rs1 rs2 imm csr), .int .i64 0]) ∧ Below w.heap.size w w' := by
  obtain ⟨j, e, hj, et, hr⟩ := okB_t h
  unfold wordOf
  rw [et, e]
  exact enc_yes (j + 1) rd rs1 rs2 imm csr w (by omega) (by omega) i0 i1 hr tf tm
theorem enc_f (op rd rs1 rs2 imm csr : Int) (w : World) (i0 : 0 ≤ imm) (i1 : imm < 4294967296) (h : okB op rd rs1 rs2 imm csr = false) (tf : FormTab w) (tm : EncTab w) :
    Calls Tryz.prog 53 #[.agg #[.int .i64 op, .int .i64 rd, .int .i64 rs1, .int .i64 rs2, .int .u32 imm, .int .i64 csr]] w fun e w' => e = .returned (.tuple #[.int .u32 0, .int .i64 9]) ∧ Below w.heap.size w w' := by
  rcases okB_f h with hb | ⟨k, rfl, hk, hk0, hr⟩
  · exact enc_bad op rd rs1 rs2 imm csr w hb
  · exact enc_no k rd rs1 rs2 imm csr w hk hk0 i0 i1 hr tf tm

theorem renc_t (op rd rs1 rs2 imm csr : Int) (w : World) (i0 : 0 ≤ imm) (i1 : imm < 4294967296) (h : okB op rd rs1 rs2 imm csr = true) :
    Calls Tryz.prog 32 #[.agg #[.int .i64 op, .int .i64 rd, .int .i64 rs1, .int .i64 rs2, .int .u32 imm, .int .i64 csr]] w fun e w' => e = .returned (.tuple #[.int .u32 (wordOf op rd rs1 rs2 imm csr), .bool true]) ∧ Below w.heap.size w w' := by
  obtain ⟨j, e, hj, et, hr⟩ := okB_t h
  unfold wordOf
  rw [et, e]
  exact renc_yes j rd rs1 rs2 imm csr w hj i0 i1 hr

theorem renc_f (op rd rs1 rs2 imm csr : Int) (w : World) (i0 : 0 ≤ imm) (i1 : imm < 4294967296) (h : okB op rd rs1 rs2 imm csr = false) :
    Calls Tryz.prog 32 #[.agg #[.int .i64 op, .int .i64 rd, .int .i64 rs1, .int .i64 rs2, .int .u32 imm, .int .i64 csr]] w fun e w' => e = .returned (.tuple #[.int .u32 0, .bool false]) ∧ Below w.heap.size w w' := by
  rcases okB_f h with hb | ⟨k, rfl, hk, hk0, hr⟩
  · exact renc_bad op rd rs1 rs2 imm csr w hb
  · exact renc_no k rd rs1 rs2 imm csr w hk hk0 i0 i1 hr

theorem aw_ok : okB 19 1 0 0 10 0 = true := by decide +kernel
theorem aw_word : wordOf 19 1 0 0 10 0 = 10485907 := by decide +kernel

end Go.Proofs.YthgolbmngjdbeaaGreatDoor

/- Layer 6: the document's own laid: items as words. -/
namespace Go.Proofs.YthgolbmngjdbeaaGreatDoor
open Go.RowKit
set_option linter.unusedVariables false
set_option linter.unusedSimpArgs false

def TenL (w : World) (B off : Nat) (x : It) (line : Int) : Prop := w.cell? ⟨B, off, none⟩ = some (.int .i64 x.1) ∧ w.cell? ⟨B, off + 1, none⟩ = some (.int .i64 x.2.1) ∧ w.cell? ⟨B, off + 2, none⟩ = some (.int .i64 x.2.2.1) ∧ w.cell? ⟨B, off + 3, none⟩ = some (.int .i64 x.2.2.2.1) ∧ w.cell? ⟨B, off + 4, none⟩ = some (.int .u32 x.2.2.2.2.1) ∧ w.cell? ⟨B, off + 5, none⟩ = some (.int .i64 x.2.2.2.2.2.1) ∧ w.cell? ⟨B, off + 6, none⟩ = some (.string (bs x.2.2.2.2.2.2.1)) ∧ w.cell? ⟨B, off + 7, none⟩ = some (.int .u32 x.2.2.2.2.2.2.2.1) ∧ w.cell? ⟨B, off + 8, none⟩ = some (.bool x.2.2.2.2.2.2.2.2) ∧ w.cell? ⟨B, off + 9, none⟩ = some (.int .i64 line)
theorem TenL.on {W w1 : World} {B off : Nat} {x : It} {line : Int} (h : TenL W B off x line) (hb : Below W.heap.size W w1) : TenL w1 B off x line := by
  obtain ⟨h0, h1, h2, h3, h4, h5, h6, h7, h8, h9⟩ := h
  exact ⟨scell_on hb h0, scell_on hb h1, scell_on hb h2, scell_on hb h3, scell_on hb h4, scell_on hb h5, scell_on hb h6, scell_on hb h7, scell_on hb h8, scell_on hb h9⟩
/-- A slice of items, as what it reads as. -/
def IsItems (w : World) (v : Value) (its : List (It × Int)) : Prop :=
  ∃ a c, v = .slice a its.length c ∧ (its.length = 0 ∨ ∃ g o, a = some ⟨g, o, none⟩ ∧ ∀ i, i < its.length → TenL w g (o + i * 10) (its.getD i (it0, 0)).1 (its.getD i (it0, 0)).2)
theorem IsItems.on {W w1 : World} {v : Value} {its : List (It × Int)} (h : IsItems W v its) (hb : Below W.heap.size W w1) : IsItems w1 v its := by
  obtain ⟨a, c, hv, h⟩ := h
  refine ⟨a, c, hv, ?_⟩
  rcases h with h | ⟨g, o, ha, hc⟩
  · exact .inl h
  · exact .inr ⟨g, o, ha, fun i hi => (hc i hi).on hb⟩
theorem IsItems.at {w : World} {a : Option Addr} {n c : Nat} {its : List (It × Int)} (h : IsItems w (.slice a n c) its) {i : Nat} (hi : i < its.length) : ∃ g o, a = some ⟨g, o, none⟩ ∧ g < w.heap.size ∧ TenL w g (o + i * 10) (its.getD i (it0, 0)).1 (its.getD i (it0, 0)).2 := by
  obtain ⟨a', c', hv, h⟩ := h
  simp only [Value.slice.injEq] at hv
  obtain ⟨rfl, _, _⟩ := hv
  rcases h with h | ⟨g, o, ha, hc⟩
  · omega
  · exact ⟨g, o, ha, lt_of_cell (hc i hi).1, hc i hi⟩
theorem lown_on {w w' : World} {base : Nat} {e : TypeId} {size : Nat} {v : Value} {n : Nat} {xs : List Value} (h : w.ownsRow base e size v n xs) (hb : Below w.heap.size w w') : w'.ownsRow base e size v n xs := by
  refine ⟨h.1, ?_⟩
  rcases h.2 with hn | ⟨g, cap, cur, hv, hbs, hg, rest⟩
  · exact .inl hn
  · have hlt : g < w.heap.size := by
      refine Nat.lt_of_not_le fun hn => ?_
      rw [Array.getElem?_eq_none hn] at hg; cases hg
    exact .inr ⟨g, cap, cur, hv, hbs, by rw [hb.block g hlt]; exact hg, rest⟩
def uV (n : Int) : Value := .int .u32 n
def nV (n : Int) : Value := .int .i64 n
theorem laid_step (names : List (List UInt8)) (at_ : List Int) (its : List (It × Int)) (k : Nat) (out : List Int) (hk : k < its.length) :
    laidL names at_ (its.drop k) k out = laidL names at_ ((its.getD k (it0, 0)) :: its.drop (k + 1)) k out := by
  have e1 : its.drop k = its.getD k (it0, 0) :: its.drop (k + 1) := by
    rw [List.drop_eq_getElem_cons hk]; simp [List.getD, hk]
  rw [e1]
def LaidAs (r : List Int × Int × Int) (B : Nat) (e : Ending) (w' : World) : Prop := ∃ vo, e = .returned (.tuple #[vo, .int .i64 r.2.1, .int .i64 r.2.2]) ∧ w'.ownsRow B 27 1 vo r.1.length (r.1.map uV)
theorem at_bd {at_ : List Int} (h : ∀ a ∈ at_, 0 ≤ a ∧ a ≤ 100000) (i : Nat) : 0 ≤ at_.getD i 0 ∧ at_.getD i 0 ≤ 100000 := by
  by_cases hi : i < at_.length
  · rw [List.getD_eq_getElem?_getD, List.getElem?_eq_getElem hi]; exact h _ (List.getElem_mem hi)
  · rw [List.getD_eq_getElem?_getD, List.getElem?_eq_none (by omega)]; decide
theorem findN_lt (names : List (List UInt8)) (s : List UInt8) : findN names s < names.length ∧ -1 ≤ findN names s := by
  have : ∀ (l : List (List UInt8)) (k : Nat), fnd s l k < (k : Int) + l.length ∧ -1 ≤ fnd s l k := by
    intro l
    induction l with
    | nil => intro k; simp [fnd]; omega
    | cons a r ih =>
      intro k
      rw [fnd]
      split
      · simp; omega
      · have := ih (k + 1)
        simp at this ⊢; omega
  have h := this names 0
  unfold findN
  omega

set_option maxRecDepth 100000 in
set_option maxHeartbeats 8000000 in
theorem rlaid_any (its : List (It × Int)) (names : List (List UInt8)) (at_ : List Int) (v0 vn va : Value) (BN BA : Nat) (w : World) (hn : its.length ≤ 5000) (hnn : names.length ≤ 70000) (hna : at_.length = names.length) (hat : ∀ a ∈ at_, 0 ≤ a ∧ a ≤ 100000) (hbd : ∀ p ∈ its, ImmB p.1)
    (h0 : IsItems w v0 its) (h1 : w.ownsRow BN 9 1 vn names.length (names.map sV)) (h2 : w.ownsRow BA 3 1 va at_.length (at_.map nV)) :
    Calls Tryz.prog 16 #[v0, vn, va] w fun e w' => LaidAs (laidL names at_ its 0 []) w.heap.size e w' ∧ Below w.heap.size w w' := by
  obtain ⟨i0, hi, hz0, hz1, hz2⟩ := info_parts (P := Tryz.prog) (e := 27) (z := .int .u32 0) (size := 1) (bytes := 4) (by kernel_rfl)
  have HI := Lib.hid h0
  have HN := Lib.hid h1
  have HA := Lib.hid h2
  have HNN := Lib.hid hnn
  have HNA := Lib.hid hna
  have HAT := Lib.hid hat
  have HBD := Lib.hid hbd
  obtain ⟨a, c, rfl, _⟩ := h0
  clear h1 h2 hnn hna hat hbd
  go_enter Tryz.func16, Tryz.ntmps16
  go_wp2
  go_loopw [9, 10] (fun v i wr => ∃ (k : Nat) (out : List Int), k ≤ its.length ∧ i = .int .i64 k ∧ out.length = k ∧ wr.ownsRow w.heap.size 27 1 v k (out.map uV) ∧ Below w.heap.size w wr ∧ Hid (laidL names at_ its 0 [] = laidL names at_ (its.drop k) k out)) (fun _ i _ => its.length - (intOf i).toNat)
  case atStart => exact ⟨0, [], Nat.zero_le _, rfl, rfl, World.ownsRow_lit w #[] 0 (Nat.le_refl _) (by decide) rfl, (Below.refl _ _).alloc (Nat.le_refl _) _, rfl⟩
  case round =>
    obtain ⟨k, out, hk, rfl, hol, hown, hb, HX⟩ := hrel
    have HB := Lib.hid hb
    have HOL := Lib.hid hol
    have HOWN := Lib.hid hown
    by_cases hlt : k < its.length
    · obtain ⟨g, o, ha, hg, ht⟩ := (HI.out.on hb).at hlt
      have HST := Lib.hid (laid_step names at_ its k out hlt)
      have HIM : Hid (ImmB (its.getD k (it0, 0)).1) := HBD.out _ (by rw [List.getD_eq_getElem?_getD, List.getElem?_eq_getElem hlt]; exact List.getElem_mem hlt)
      generalize its.getD k (it0, 0) = xl at *
      obtain ⟨x, ln⟩ := xl
      subst ha
      clear hown hb hol
      obtain ⟨t0, t1, t2, t3, t4, t5, t6, t7, t8, t9⟩ := ht
      dsimp only at t0 t1 t2 t3 t4 t5 t6 t7 t8 t9
      cases hraw : x.2.2.2.2.2.2.2.2 with
      | true =>
        have HLD : Hid (laidL names at_ its 0 [] = laidL names at_ (its.drop (k + 1)) (k + 1) (out ++ [x.2.2.2.2.2.2.2.1])) := by
          show laidL _ _ _ _ _ = _
          rw [HX.out, HST.out, laidL, if_pos hraw]
        have hown2 := HOWN.out
        go_wp2_with (at_builtin; refine wpList_append_own _ rfl _ _ 23 rfl w.heap.size 27 i0 _ 1 4 Tryz.underlying23 hi hz0 hz1 hz2 rfl (by decide) _ _ _ rfl ((hown2.alloc _).alloc _) ⟨wr.heap.size + 1, 0, none⟩ 1 1 [.int .u32 x.2.2.2.2.2.2.2.1] rfl rfl ?c1 ?c2 ?c3 ?c4 ?c5 ?_)
        case c2 => intros; first | rfl | (rename_i hu; simp at hu; subst hu; rfl)
        case c3 => unfold maxLen; omega
        case c4 => omega
        case c5 => have := HB.out.size; omega
        intro v' w3 hown' hgrow _
        have hb' : Below w.heap.size w w3 := ((HB.out.alloc HB.out.size _).alloc (by have := HB.out.size; simp; omega) _).grown hgrow (by have := HB.out.size; simp; omega) (fun j hj => (hown2.lt j hj).1)
        have ho : w3.ownsRow w.heap.size 27 1 v' (k + 1) ((out ++ [x.2.2.2.2.2.2.2.1]).map uV) := by
          rw [List.map_append]; exact hown'
        have HO := Lib.hid ho
        have HB' := Lib.hid hb'
        clear hown' hgrow hown2 ho hb'
        go_wp2
        go_roundw
        case rel => exact ⟨k + 1, _, by omega, by go_num, by have := HOL.out; simp [this], HO.out, HB'.out, HLD.out⟩
        case measure => simp [intOf]; omega
      | false =>
        by_cases hlb : x.2.2.2.2.2.2.1 = []
        · have hbs : bs x.2.2.2.2.2.2.1 = ⟨#[]⟩ := by rw [hlb]; rfl
          have HL0 : Hid (laidL names at_ its 0 [] = if okI x.1 x.2.1 x.2.2.1 x.2.2.2.1 x.2.2.2.2.1 x.2.2.2.2.2.1 = true then laidL names at_ (its.drop (k + 1)) (k + 1) (out ++ [encOf x.1.toNat x.2.1 x.2.2.1 x.2.2.2.1 x.2.2.2.2.1 x.2.2.2.2.2.1]) else ([], ln, 9)) := by
            show laidL _ _ _ _ _ = _
            rw [HX.out, HST.out, laidL, if_neg (by rw [hraw]; decide), if_neg (fun q => q.1 hlb), show immI x names at_ k = x.2.2.2.2.1 from by unfold immI; rw [if_pos hlb]]
          have HI0 := Lib.hid HIM.out.1
          have HI1 := Lib.hid HIM.out.2
          clear hlb
          go_wp2_with fail
          have HBA : Hid (Below w.heap.size w (wr.alloc (.cells #[.int .i64 x.1, .int .i64 x.2.1, .int .i64 x.2.2.1, .int .i64 x.2.2.2.1, .int .u32 x.2.2.2.2.1, .int .i64 x.2.2.2.2.2.1, .string ⟨#[]⟩, .int .u32 x.2.2.2.2.2.2.2.1, .bool false, .int .i64 ln] 48))) := HB.out.alloc HB.out.size _
          have HOA := Lib.hid (HOWN.out.alloc (.cells #[.int .i64 x.1, .int .i64 x.2.1, .int .i64 x.2.2.1, .int .i64 x.2.2.2.1, .int .u32 x.2.2.2.2.1, .int .i64 x.2.2.2.2.2.1, .string ⟨#[]⟩, .int .u32 x.2.2.2.2.2.2.2.1, .bool false, .int .i64 ln] 48))
          have HTA := Lib.hid (tenG_new wr x.1 x.2.1 x.2.2.1 x.2.2.2.1 x.2.2.2.2.1 x.2.2.2.2.2.1 ⟨#[]⟩ x.2.2.2.2.2.2.2.1 false ln)
          cases hok : okI x.1 x.2.1 x.2.2.1 x.2.2.2.1 x.2.2.2.2.1 x.2.2.2.2.2.1 with
          | true =>
            have HLD : Hid (laidL names at_ its 0 [] = laidL names at_ (its.drop (k + 1)) (k + 1) (out ++ [wordOf x.1 x.2.1 x.2.2.1 x.2.2.2.1 x.2.2.2.2.1 x.2.2.2.2.2.1])) := by
              show laidL _ _ _ _ _ = _
              rw [HL0.out, if_pos hok]; rfl
            have HOK := Lib.hid hok
            clear hok
            refine (renc_t x.1 x.2.1 x.2.2.1 x.2.2.2.1 x.2.2.2.2.1 x.2.2.2.2.2.1 _ HI0.out HI1.out HOK.out).mono ?_
            rintro e w2 ⟨rfl, hb2⟩
            have HB2 : Hid (Below w.heap.size w w2) := HBA.out.trans (hb2.mono HBA.out.size)
            have hown2 := lown_on HOA.out hb2
            generalize wordOf x.1 x.2.1 x.2.2.1 x.2.2.2.1 x.2.2.2.2.1 x.2.2.2.2.2.1 = wd at *
            clear hb2
            go_wp2_with (at_builtin; refine wpList_append_own _ rfl _ _ 23 rfl w.heap.size 27 i0 _ 1 4 Tryz.underlying23 hi hz0 hz1 hz2 rfl (by decide) _ _ _ rfl (hown2.alloc _) ⟨w2.heap.size, 0, none⟩ 1 1 [.int .u32 wd] rfl rfl ?d1 ?d2 ?d3 ?d4 ?d5 ?_)
            case d1 =>
              intro j u hj
              match j, hj with
              | 0, hj => simp at hj; subst hj; simp [Addr.add]
            case d2 => intro u hu; simp at hu; subst hu; rfl
            case d3 => unfold maxLen; omega
            case d4 => omega
            case d5 => have := HB2.out.size; simp; omega
            intro v' w3 hown' hgrow _
            have hb' : Below w.heap.size w w3 := (HB2.out.alloc HB2.out.size _).grown hgrow (by have := HB2.out.size; simp; omega) (fun j hj => (hown2.lt j hj).1)
            have ho : w3.ownsRow w.heap.size 27 1 v' (k + 1) ((out ++ [wd]).map uV) := by
              rw [List.map_append]; exact hown'
            have HO := Lib.hid ho
            have HB' := Lib.hid hb'
            clear hown' hgrow hown2 ho hb'
            go_wp2
            go_roundw
            case rel => exact ⟨k + 1, _, by omega, by go_num, by have := HOL.out; simp [this], HO.out, HB'.out, HLD.out⟩
            case measure => simp [intOf]; omega
          | false =>
            have HLD : Hid (laidL names at_ its 0 [] = ([], ln, 9)) := by
              show laidL _ _ _ _ _ = _
              rw [HL0.out, if_neg (by rw [hok]; decide)]
            have HOK := Lib.hid hok
            clear hok
            refine (renc_f x.1 x.2.1 x.2.2.1 x.2.2.2.1 x.2.2.2.2.1 x.2.2.2.2.2.1 _ HI0.out HI1.out HOK.out).mono ?_
            rintro e w2 ⟨rfl, hb2⟩
            have HB2 : Hid (Below w.heap.size w w2) := HBA.out.trans (hb2.mono HBA.out.size)
            obtain ⟨p0, p1, p2, p3, p4, p5, p6, p7, p8, p9⟩ := (TenG.on HTA.out hb2).cells
            clear hb2
            go_wp2_with fail
            go_quiet (fail)
            go_wp2
            rw [HLD.out]
            refine bodyPost_ret (v := .tuple #[.slice none 0 0, .int .i64 ln, .int .i64 9]) (by simp [results, Tryz.results16, go_sem]) rfl ⟨⟨_, rfl, World.ownsRow_nil _ _ _ _⟩, ?_⟩
            first | exact HB2.out | exact HB2.out.drew | exact HB2.out.trans (Q.below ⟨_, rfl⟩ _)
        · have n1 := bs_ne hlb
          have n2 := bs_ne' hlb
          have HFD : Hid (∀ W : World, Below w.heap.size w W → Calls Tryz.prog 14 #[vn, .string (bs x.2.2.2.2.2.2.1)] W fun e w' => e = .returned (.int .i64 (findN names x.2.2.2.2.2.2.1)) ∧ w' = W) := fun W hW => rfind_any names _ vn BN W HNN.out (lown_on HN.out hW)
          have hfl := findN_lt names x.2.2.2.2.2.2.1
          go_wp2_with fail
          refine (HFD.out _ (HB.out.alloc HB.out.size _)).mono ?_
          rintro e w' ⟨rfl, hw⟩; have hw := hw.symm; subst hw
          by_cases hneg : findN names x.2.2.2.2.2.2.1 < 0
          · have HLD : Hid (laidL names at_ its 0 [] = ([], ln, 1)) := by
              show laidL _ _ _ _ _ = _
              rw [HX.out, HST.out, laidL, if_neg (by rw [hraw]; decide), if_pos ⟨hlb, hneg⟩]
            generalize findN names x.2.2.2.2.2.2.1 = F at *
            clear hfl hlb
            go_wp2_with fail
            go_quiet (fail)
            go_wp2
            rw [HLD.out]
            refine bodyPost_ret (v := .tuple #[.slice none 0 0, .int .i64 ln, .int .i64 1]) (by simp [results, Tryz.results16, go_sem]) rfl ⟨⟨_, rfl, World.ownsRow_nil _ _ _ _⟩, ?_⟩
            first | exact (HB.out.alloc HB.out.size _).drew | exact (HB.out.alloc HB.out.size _).trans (Q.below ⟨_, rfl⟩ _)
          · obtain ⟨m, hm⟩ : ∃ m : Nat, findN names x.2.2.2.2.2.2.1 = m := ⟨(findN names x.2.2.2.2.2.2.1).toNat, by omega⟩
            have hml : m < at_.length := by have := HNA.out; omega
            have hab := at_bd HAT.out m
            obtain ⟨ga, ca, hva⟩ := owned_some HA.out (by omega)
            have hcA : w.cell? ⟨ga, m, none⟩ = some (.int .i64 (at_.getD m 0)) := by
              have h2' := HA.out
              rw [hva] at h2'
              rw [h2'.cellAt m (by omega)]
              simp [List.getD, hml, nV]
            have hcB : wr.cell? ⟨ga, m, none⟩ = some (.int .i64 (at_.getD m 0)) := by
              rw [HB.out.cell (p := ⟨ga, m, none⟩) (lt_of_cell hcA)]; exact hcA
            have hgl : ga < wr.heap.size := lt_of_cell hcB
            have HIMM : Hid (immI x names at_ k = (at_.getD m 0 - 4 * (k : Int)) % 4294967296) := by
              show immI x names at_ k = _
              unfold immI; rw [if_neg hlb, hm, Int.toNat_natCast]
            have HL0 : Hid (laidL names at_ its 0 [] = if okI x.1 x.2.1 x.2.2.1 x.2.2.2.1 ((at_.getD m 0 - 4 * (k : Int)) % 4294967296) x.2.2.2.2.2.1 = true then laidL names at_ (its.drop (k + 1)) (k + 1) (out ++ [encOf x.1.toNat x.2.1 x.2.2.1 x.2.2.2.1 ((at_.getD m 0 - 4 * (k : Int)) % 4294967296) x.2.2.2.2.2.1]) else ([], ln, 9)) := by
              show laidL _ _ _ _ _ = _
              rw [HX.out, HST.out, laidL, if_neg (by rw [hraw]; decide), if_neg (fun q => hneg q.2), HIMM.out]
            subst hva
            rw [hm]
            generalize at_.getD m 0 = A at *
            have hw1 : IntKind.i64.wrap (4 * (k : Int)) = 4 * (k : Int) := by rw [IntKind.wrap_i64]; omega
            have hw2 : IntKind.i64.wrap (A - 4 * (k : Int)) = A - 4 * (k : Int) := by rw [IntKind.wrap_i64]; omega
            have HWD : Hid (∀ W : World, Calls Tryz.prog 31 #[.int .i64 (A - 4 * (k : Int))] W fun e w' => e = .returned (.int .u32 ((A - 4 * (k : Int)) % 4294967296)) ∧ w' = W) := fun W => rwordOf_any _ W (by omega) (by omega)
            have HI0 : Hid (0 ≤ (A - 4 * (k : Int)) % 4294967296) := Int.emod_nonneg _ (by decide)
            have HI1 : Hid ((A - 4 * (k : Int)) % 4294967296 < 4294967296) := Int.emod_lt_of_pos _ (by decide)
            clear hneg hm hfl hcA hlb HIMM
            have hm0 : (0 : Int) ≤ (m : Int) := by omega
            have hmI : (m : Int) < (at_.length : Int) := by omega
            generalize (A - 4 * (k : Int)) % 4294967296 = IM at *
            go_wp2_with (go_at_call 31; refine (HWD.out _).mono ?_; rintro e w' ⟨rfl, hw⟩; have hw := hw.symm; subst hw)
            have HBA : Hid (Below w.heap.size w (wr.alloc (.cells #[.int .i64 x.1, .int .i64 x.2.1, .int .i64 x.2.2.1, .int .i64 x.2.2.2.1, .int .u32 IM, .int .i64 x.2.2.2.2.2.1, .string (bs x.2.2.2.2.2.2.1), .int .u32 x.2.2.2.2.2.2.2.1, .bool false, .int .i64 ln] 48))) := HB.out.alloc HB.out.size _
            have HOA := Lib.hid (HOWN.out.alloc (.cells #[.int .i64 x.1, .int .i64 x.2.1, .int .i64 x.2.2.1, .int .i64 x.2.2.2.1, .int .u32 IM, .int .i64 x.2.2.2.2.2.1, .string (bs x.2.2.2.2.2.2.1), .int .u32 x.2.2.2.2.2.2.2.1, .bool false, .int .i64 ln] 48))
            have HTA := Lib.hid (tenG_new wr x.1 x.2.1 x.2.2.1 x.2.2.2.1 IM x.2.2.2.2.2.1 (bs x.2.2.2.2.2.2.1) x.2.2.2.2.2.2.2.1 false ln)
            cases hok : okI x.1 x.2.1 x.2.2.1 x.2.2.2.1 IM x.2.2.2.2.2.1 with
            | true =>
              have HLD : Hid (laidL names at_ its 0 [] = laidL names at_ (its.drop (k + 1)) (k + 1) (out ++ [wordOf x.1 x.2.1 x.2.2.1 x.2.2.2.1 IM x.2.2.2.2.2.1])) := by
                show laidL _ _ _ _ _ = _
                rw [HL0.out, if_pos hok]; rfl
              have HOK := Lib.hid hok
              clear hok
              refine (renc_t x.1 x.2.1 x.2.2.1 x.2.2.2.1 IM x.2.2.2.2.2.1 _ HI0.out HI1.out HOK.out).mono ?_
              rintro e w2 ⟨rfl, hb2⟩
              have HB2 : Hid (Below w.heap.size w w2) := HBA.out.trans (hb2.mono HBA.out.size)
              have hown2 := lown_on HOA.out hb2
              generalize wordOf x.1 x.2.1 x.2.2.1 x.2.2.2.1 IM x.2.2.2.2.2.1 = wd at *
              clear hb2
              go_wp2_with (at_builtin; refine wpList_append_own _ rfl _ _ 23 rfl w.heap.size 27 i0 _ 1 4 Tryz.underlying23 hi hz0 hz1 hz2 rfl (by decide) _ _ _ rfl (hown2.alloc _) ⟨w2.heap.size, 0, none⟩ 1 1 [.int .u32 wd] rfl rfl ?f1 ?f2 ?f3 ?f4 ?f5 ?_)
              case f1 =>
                intro j u hj
                match j, hj with
                | 0, hj => simp at hj; subst hj; simp [Addr.add]
              case f2 => intro u hu; simp at hu; subst hu; rfl
              case f3 => unfold maxLen; omega
              case f4 => omega
              case f5 => have := HB2.out.size; simp; omega
              intro v' w3 hown' hgrow _
              have hb' : Below w.heap.size w w3 := (HB2.out.alloc HB2.out.size _).grown hgrow (by have := HB2.out.size; simp; omega) (fun j hj => (hown2.lt j hj).1)
              have ho : w3.ownsRow w.heap.size 27 1 v' (k + 1) ((out ++ [wd]).map uV) := by
                rw [List.map_append]; exact hown'
              have HO := Lib.hid ho
              have HB' := Lib.hid hb'
              clear hown' hgrow hown2 ho hb'
              go_wp2
              go_roundw
              case rel => exact ⟨k + 1, _, by omega, by go_num, by have := HOL.out; simp [this], HO.out, HB'.out, HLD.out⟩
              case measure => simp [intOf]; omega
            | false =>
              have HLD : Hid (laidL names at_ its 0 [] = ([], ln, 9)) := by
                show laidL _ _ _ _ _ = _
                rw [HL0.out, if_neg (by rw [hok]; decide)]
              have HOK := Lib.hid hok
              clear hok
              refine (renc_f x.1 x.2.1 x.2.2.1 x.2.2.2.1 IM x.2.2.2.2.2.1 _ HI0.out HI1.out HOK.out).mono ?_
              rintro e w2 ⟨rfl, hb2⟩
              have HB2 : Hid (Below w.heap.size w w2) := HBA.out.trans (hb2.mono HBA.out.size)
              obtain ⟨p0, p1, p2, p3, p4, p5, p6, p7, p8, p9⟩ := (TenG.on HTA.out hb2).cells
              clear hb2
              go_wp2_with fail
              go_quiet (fail)
              go_wp2
              rw [HLD.out]
              refine bodyPost_ret (v := .tuple #[.slice none 0 0, .int .i64 ln, .int .i64 9]) (by simp [results, Tryz.results16, go_sem]) rfl ⟨⟨_, rfl, World.ownsRow_nil _ _ _ _⟩, ?_⟩
              first | exact HB2.out | exact HB2.out.drew | exact HB2.out.trans (Q.below ⟨_, rfl⟩ _)
    · obtain rfl : k = its.length := by omega
      have HLD : Hid (laidL names at_ its 0 [] = (out, 0, 0)) := by
        show laidL _ _ _ _ _ = _
        rw [HX.out, List.drop_length]; rfl
      clear hown hb hol
      go_wp2
      rw [HLD.out]
      refine bodyPost_ret (v := .tuple #[_, .int .i64 0, .int .i64 0]) (by simp [results, Tryz.results16, go_sem]; rfl) rfl ⟨⟨_, rfl, ?_⟩, HB.out⟩
      have := HOWN.out
      rw [← HOL.out] at this
      exact this
end Go.Proofs.YthgolbmngjdbeaaGreatDoor

/- Layer 6: rows beside rows; items as a row. -/
namespace Go.Proofs.YthgolbmngjdbeaaGreatDoor
open Go.RowKit
set_option linter.unusedVariables false
set_option linter.unusedSimpArgs false

theorem own_apart {w : World} {B B' s s' n n' : Nat} {e e' : TypeId} {v v' : Value} {xs xs' : List Value} (h : w.ownsRow B e s v n xs) (h' : w.ownsRow B' e' s' v' n' xs') (hne : e ≠ e') : v.ownBlock = none ∨ v.ownBlock ≠ v'.ownBlock := by
  rcases h.2 with ⟨rfl, _⟩ | ⟨g, cap, cur, rfl, _, hg, _⟩
  · exact .inl rfl
  · refine .inr ?_
    rcases h'.2 with ⟨rfl, _⟩ | ⟨g', cap', cur', rfl, _, hg', _⟩
    · simp [Value.ownBlock]
    · simp only [Value.ownBlock, ne_eq, Option.some.injEq]
      rintro rfl
      rw [hg] at hg'
      simp only [Option.some.injEq, Obj.cells.injEq] at hg'
      exact hne hg'.2.1
theorem IsStrs.kept {w w' : World} {v : Value} {ls : List (List UInt8)} {row : Option Nat} (h : IsStrs w v ls) (hg : w.grownBy w' row) (hne : ∀ g, v.ownBlock = some g → row ≠ some g) : IsStrs w' v ls := by
  obtain ⟨a, c, rfl, h⟩ := h
  refine ⟨a, c, rfl, ?_⟩
  rcases h with h | ⟨g, o, rfl, hc⟩
  · exact .inl h
  · refine .inr ⟨g, o, rfl, fun i hi => ?_⟩
    have hlt := lt_of_cell (hc i hi)
    have hb := hne g rfl
    have hk : w'.heap[g]? = w.heap[g]? := hg.block g hlt (fun e => hb (by first | exact e.symm | exact e))
    have := hc i hi
    unfold World.cell? at this ⊢
    rw [hk]; exact this
theorem IsStrs.drop2 {w : World} {a : Option Addr} {n c : Nat} {p q : List UInt8} {ls : List (List UInt8)} {g o : Nat} (h : IsStrs w (.slice (some ⟨g, o, none⟩) n c) (p :: q :: ls)) (c' : Nat) : IsStrs w (.slice (some ⟨g, o + 2, none⟩) ls.length c') ls := by
  obtain ⟨a, cc, hv, h⟩ := h
  refine ⟨_, _, rfl, ?_⟩
  rcases h with h | ⟨g', o', ha, hc⟩
  · simp at h
  · simp only [Value.slice.injEq] at hv
    obtain ⟨rfl, _, _⟩ := hv
    simp only [Option.some.injEq, Addr.mk.injEq] at ha
    obtain ⟨rfl, rfl, _⟩ := ha
    refine .inr ⟨_, _, rfl, fun i hi => ?_⟩
    have := hc (i + 2) (by simp; omega)
    rw [show o + 2 + i = o + (i + 2) from by omega]
    simpa using this

/-- Items as cells. -/
def itCells : List (It × Int) → List Value
  | [] => []
  | p :: r => (tenV p.1 p.2).toList ++ itCells r
theorem itCells_len : ∀ its : List (It × Int), (itCells its).length = its.length * 10
  | [] => rfl
  | p :: r => by
    have := itCells_len r
    simp only [itCells, List.length_append, this, List.length_cons]
    simp [tenV]; omega
theorem itCells_app : ∀ (a b : List (It × Int)), itCells (a ++ b) = itCells a ++ itCells b
  | [], b => rfl
  | p :: r, b => by simp only [List.cons_append, itCells, itCells_app r b, List.append_assoc]
theorem itCells_at : ∀ (its : List (It × Int)) (i j : Nat), i < its.length → j < 10 → (itCells its)[i * 10 + j]? = (tenV (its.getD i (it0, 0)).1 (its.getD i (it0, 0)).2)[j]?
  | [], i, j, h, _ => by simp at h
  | p :: r, 0, j, _, hj => by
    rw [itCells, List.getElem?_append_left (by simp [tenV]; omega)]
    simp
  | p :: r, i + 1, j, h, hj => by
    have := itCells_at r i j (by simpa using h) hj
    rw [itCells, List.getElem?_append_right (by simp [tenV]; omega)]
    rw [show (i + 1) * 10 + j - (tenV p.1 p.2).toList.length = i * 10 + j from by simp [tenV]; omega, this]
    simp
theorem isItems_own {w : World} {B : Nat} {v : Value} {its : List (It × Int)} (h : w.ownsRow B 48 10 v its.length (itCells its)) : IsItems w v its := by
  by_cases h0 : its.length = 0
  · obtain ⟨p, c, hv⟩ : ∃ p c, v = .slice p its.length c := by
      rcases h.2 with ⟨rfl, e⟩ | ⟨g, cap, cur, rfl, _⟩
      · rw [e]; exact ⟨_, _, rfl⟩
      · exact ⟨_, _, rfl⟩
    exact ⟨p, c, hv, .inl h0⟩
  · obtain ⟨g, c, rfl⟩ := owned_some h (by omega)
    refine ⟨_, c, rfl, .inr ⟨g, 0, rfl, fun i hi => ?_⟩⟩
    have C : ∀ j, j < 10 → w.cell? ⟨g, 0 + i * 10 + j, none⟩ = (tenV (its.getD i (it0, 0)).1 (its.getD i (it0, 0)).2)[j]? := fun j hj => by
      rw [Nat.zero_add, h.cellAt (i * 10 + j) (by omega)]
      exact itCells_at its i j hi hj
    exact ⟨C 0 (by decide), C 1 (by decide), C 2 (by decide), C 3 (by decide), C 4 (by decide), C 5 (by decide), C 6 (by decide), C 7 (by decide), C 8 (by decide), C 9 (by decide)⟩
end Go.Proofs.YthgolbmngjdbeaaGreatDoor

/- Layer 6, the program's own table of labels, and its statements as a row. -/
namespace Go.Proofs.YthgolbmngjdbeaaGreatDoor
open Go.RowKit
set_option linter.unusedVariables false
set_option linter.unusedSimpArgs false

theorem fnd_app (s : List UInt8) : ∀ (a b : List (List UInt8)) (k : Nat), fnd s (a ++ b) k = if fnd s a k < 0 then fnd s b (k + a.length) else fnd s a k
  | [], b, k => by simp [fnd]
  | x :: r, b, k => by
    by_cases h : x = s
    · simp only [List.cons_append, fnd, if_pos h]
      rw [if_neg (by omega)]
    · simp only [List.cons_append, fnd, if_neg h]
      rw [fnd_app s r b (k + 1)]
      simp only [List.length_cons]
      rw [show k + 1 + r.length = k + (r.length + 1) from by omega]
theorem find_same {ns : List (List UInt8)} {s : List UInt8} (h : findN ns s < 0) : findN (ns ++ [s]) s = ns.length := by
  unfold findN at *
  rw [fnd_app, if_pos h]
  simp [fnd]
theorem find_other {ns : List (List UInt8)} {s t : List UInt8} (h : s ≠ t) : findN (ns ++ [s]) t = findN ns t := by
  have hb := findN_lt ns t
  unfold findN at *
  rw [fnd_app]
  split
  · simp only [fnd, if_neg h]; omega
  · rfl
/-- The labels in a map, as the names and addresses that were put. -/
def LabIs (D : DataW Unit) (ns : List (List UInt8)) (ads : List Int) : Prop := Maps.IsMap D ∧ ∀ s, (0 ≤ findN ns s → Maps.has D (.string s) = true ∧ ∀ z, D.atKey (.string s) z = .lit (.int .u32 (ads.getD (findN ns s).toNat 0))) ∧ (findN ns s < 0 → Maps.has D (.string s) = false)
theorem labIs_nil : LabIs (.map []) [] [] := ⟨Maps.isMap_empty, fun s => ⟨fun h => absurd h (by show ¬ (0 : Int) ≤ -1; decide), fun _ => rfl⟩⟩
theorem LabIs.put {D : DataW Unit} {ns : List (List UInt8)} {ads : List Int} {s : List UInt8} {a : Int} (h : LabIs D ns ads) (hn : findN ns s < 0) (hl : ads.length = ns.length) : LabIs (D.put (.string s) (.lit (.int .u32 a))) (ns ++ [s]) (ads ++ [a]) := by
  refine ⟨h.1.put _ _, fun t => ?_⟩
  by_cases e : s = t
  · subst e
    rw [find_same hn]
    refine ⟨fun _ => ⟨Maps.has_put_same (k := .string s) h.1 (show WideAt.IsKeyLit (.string s) from trivial) _, fun z => ?_⟩, fun g => by omega⟩
    rw [Maps.atKey_put_same (k := .string s) h.1 (show WideAt.IsKeyLit (.string s) from trivial)]
    simp [← hl]
  · rw [find_other e]
    have hne : (Lit.string t) ≠ (Lit.string s) := fun g => e (by injection g with g; exact g.symm)
    obtain ⟨h1, h2⟩ := h.2 t
    refine ⟨fun g => ?_, fun g => by rw [Maps.has_put_other hne]; exact h2 g⟩
    obtain ⟨p, q⟩ := h1 g
    refine ⟨by rw [Maps.has_put_other hne]; exact p, fun z => ?_⟩
    rw [Maps.atKey_put_other hne, q z]
    have hb := (findN_lt ns t).1
    have hi : (findN ns t).toNat < ads.length := by omega
    rw [List.getD_eq_getElem?_getD, List.getD_eq_getElem?_getD, List.getElem?_append_left hi]

theorem strLaw : Maps.Keyed Tryz.prog 9 := Maps.string_keyed Tryz.underlying9
theorem u32zero (w : World) : (zeroValue 27).run Tryz.prog w = .ok (.int .u32 0) w := by first | exact Tryz.zeroValue27 w | kernel_rfl
theorem labKey (s : List UInt8) (hs : s.length ≤ 70000) : keyOf Tryz.prog 9 (.string (bs s)) = some (.string s) := Go.WideMaps.keyOf_string_mk Tryz.underlying9 (by rw [bs_size]; unfold maxLen; omega)
def MapAt (w : World) (mb n : Nat) (D : DataW Unit) : Prop := w.ownsMap Tryz.prog 9 (plainElem Tryz.prog 27) mb n D
theorem look_any {w : World} {mb n : Nat} {D : DataW Unit} {ns : List (List UInt8)} {ads : List Int} (hown : MapAt w mb n D) (hL : LabIs D ns ads) (s : List UInt8) (hs : s.length ≤ 70000) :
    (Instr.lookup 33 (.map (some mb)) (.string (bs s)) true).run Tryz.prog w = .ok (.tuple #[.int .u32 (if 0 ≤ findN ns s then ads.getD (findN ns s).toNat 0 else 0), .bool (decide (0 ≤ findN ns s))]) w := by
  obtain ⟨v, ps, hrun, hv⟩ := World.ownsMap.look_ok hown strLaw Tryz.underlying33 (u32zero w) (plainElem_int Tryz.underlying27 (by decide)) (labKey s hs)
  obtain ⟨c, rfl, hc, hwc⟩ := plainElem_int_inv Tryz.underlying27 hv
  have hc1 := congrArg Prod.fst hc
  simp only at hc1
  rw [hrun]
  obtain ⟨h1, h2⟩ := hL.2 s
  by_cases g : 0 ≤ findN ns s
  · obtain ⟨p, q⟩ := h1 g
    rw [q] at hc1
    simp only [DataW.lit.injEq, Lit.int.injEq, true_and] at hc1
    rw [p, if_pos g, decide_eq_true g, hc1]
  · have p := h2 (by omega)
    rw [Maps.atKey_of_not_has p] at hc1
    simp only [DataW.lit.injEq, Lit.int.injEq, true_and] at hc1
    rw [p, if_neg g, decide_eq_false g, hc1]
theorem upd_any {w : World} {mb n : Nat} {D : DataW Unit} {ns : List (List UInt8)} {ads : List Int} (hown : MapAt w mb n D) (hL : LabIs D ns ads) (s : List UInt8) (hs : s.length ≤ 70000) (a : Int) (ha : 0 ≤ a ∧ a < 4294967296) (hn : n < maxLen) (hf : findN ns s < 0) (hl : ads.length = ns.length) :
    ∃ w', (Instr.mapUpdate 33 (.map (some mb)) (.string (bs s)) (.int .u32 a)).run Tryz.prog w = .ok () w' ∧ (∃ D', MapAt w' mb (n + 1) D' ∧ LabIs D' (ns ++ [s]) (ads ++ [a])) ∧ w.grownBy w' (some mb) := by
  obtain ⟨w', h1, h2, h3⟩ := World.ownsMap.update hown strLaw Tryz.underlying33 hn (labKey s hs) (plainElem_int Tryz.underlying27 (WalkArith.wf_u32 ⟨ha.1, by have := ha.2; omega⟩))
  exact ⟨w', h1, ⟨_, h2, hL.put hf hl⟩, h3⟩
end Go.Proofs.YthgolbmngjdbeaaGreatDoor

/- Layer 6, the program's own statements as a row; what add comes to. -/
namespace Go.Proofs.YthgolbmngjdbeaaGreatDoor
open Go.RowKit
set_option linter.unusedVariables false
set_option linter.unusedSimpArgs false

def kdI (x : It) : Int := if x.2.2.2.2.2.2.2.2 = true then 1 else 2
def plI (x : It) : Int := if x.2.2.2.2.2.2.2.2 = true then x.2.2.2.2.2.2.2.1 else 0
def stTen (x : It) (ln : Int) : Array Value := #[.int .i64 (kdI x), .int .i64 ln, .int .u32 (plI x), .int .i64 x.1, .int .i64 x.2.1, .int .i64 x.2.2.1, .int .i64 x.2.2.2.1, .int .u32 x.2.2.2.2.1, .int .i64 x.2.2.2.2.2.1, .string (bs x.2.2.2.2.2.2.1)]
/-- Statements as cells. -/
def stCells : List (It × Int) → List Value
  | [] => []
  | p :: r => (stTen p.1 p.2).toList ++ stCells r
theorem stCells_len : ∀ its : List (It × Int), (stCells its).length = its.length * 10
  | [] => rfl
  | p :: r => by
    have := stCells_len r
    simp only [stCells, List.length_append, this, List.length_cons]
    simp [stTen]; omega
theorem stCells_app : ∀ (a b : List (It × Int)), stCells (a ++ b) = stCells a ++ stCells b
  | [], b => rfl
  | p :: r, b => by simp only [List.cons_append, stCells, stCells_app r b, List.append_assoc]
theorem stCells_at : ∀ (its : List (It × Int)) (i j : Nat), i < its.length → j < 10 → (stCells its)[i * 10 + j]? = (stTen (its.getD i (it0, 0)).1 (its.getD i (it0, 0)).2)[j]?
  | [], i, j, h, _ => by simp at h
  | p :: r, 0, j, _, hj => by
    rw [stCells, List.getElem?_append_left (by simp [stTen]; omega)]
    simp
  | p :: r, i + 1, j, h, hj => by
    have := stCells_at r i j (by simpa using h) hj
    rw [stCells, List.getElem?_append_right (by simp [stTen]; omega)]
    rw [show (i + 1) * 10 + j - (stTen p.1 p.2).toList.length = i * 10 + j from by simp [stTen]; omega, this]
    simp

theorem gown_slice {w : World} {B s n : Nat} {e : TypeId} {v : Value} {xs : List Value} (h : w.ownsRow B e s v n xs) : ∃ p c, v = .slice p n c := by
  rcases h.2 with ⟨rfl, e⟩ | ⟨g, cap, cur, rfl, _⟩
  · rw [e]; exact ⟨_, _, rfl⟩
  · exact ⟨_, _, rfl⟩
/-- What a program under way is: its labels and its statements. -/
def PrG (w : World) (B P mb : Nat) (v : Value) (st : St) : Prop :=
  w.heap[P]? = some (.cells #[.map (some mb), v] 36) ∧ (∃ D, MapAt w mb st.2.1.length D ∧ LabIs D st.2.1 st.2.2) ∧ w.ownsRow B 55 10 v st.1.length (stCells st.1)
theorem mapAt_on {w w' : World} {mb n : Nat} {D : DataW Unit} (h : MapAt w mb n D) (hb : Below w.heap.size w w') : MapAt w' mb n D := by
  have hlt := World.ownsMap.lt h
  obtain ⟨es, cl, he, r⟩ := h
  exact ⟨es, cl, by rw [hb.block mb hlt]; exact he, r⟩
theorem mapAt_only {w w' : World} {mb n B : Nat} {D : DataW Unit} (h : MapAt w mb n D) (hb : OnlyB B w w') (hne : mb ≠ B) : MapAt w' mb n D := by
  obtain ⟨es, cl, he, r⟩ := h
  exact ⟨es, cl, by rw [hb.2.2.2.2 mb hne]; exact he, r⟩
theorem PrG.on {w w' : World} {B P mb : Nat} {v : Value} {st : St} (h : PrG w B P mb v st) (hb : Below w.heap.size w w') : PrG w' B P mb v st := by
  obtain ⟨h1, ⟨D, h2, h3⟩, h4⟩ := h
  exact ⟨by rw [hb.block P (Array.getElem?_eq_some_iff.1 h1).1]; exact h1, ⟨D, mapAt_on h2 hb, h3⟩, lown_on h4 hb⟩
theorem PrG.cells {w : World} {B P mb : Nat} {v : Value} {st : St} (h : PrG w B P mb v st) : w.cell? ⟨P, 0, none⟩ = some (.map (some mb)) ∧ w.cell? ⟨P, 1, none⟩ = some v := by
  have h1 := h.1
  constructor <;> simp [World.cell?, h1]
theorem PrG.free {w : World} {B P mb : Nat} {v : Value} {st : St} (h : PrG w B P mb v st) : ∀ j, w.frozen? ⟨P, j, none⟩ = false := by
  have h1 := h.1
  intro j
  simp [World.frozen?, h1]
theorem PrG.ne {w : World} {B P mb : Nat} {v : Value} {st : St} (h : PrG w B P mb v st) : P ≠ mb ∧ v.ownBlock ≠ some P ∧ v.ownBlock ≠ some mb := by
  obtain ⟨h1, ⟨D, ⟨es, cl, h2, _⟩, _⟩, h4⟩ := h
  refine ⟨?_, ?_, ?_⟩
  · rintro rfl
    rw [h1] at h2; cases h2
  · rcases h4.2 with ⟨rfl, _⟩ | ⟨g, cap, cur, rfl, _, hg, _⟩
    · simp [Value.ownBlock]
    · simp only [Value.ownBlock, ne_eq, Option.some.injEq]
      rintro rfl
      rw [h1] at hg
      simp only [Option.some.injEq, Obj.cells.injEq] at hg
      exact absurd hg.2.1 (by decide)
  · rcases h4.2 with ⟨rfl, _⟩ | ⟨g, cap, cur, rfl, _, hg, _⟩
    · simp [Value.ownBlock]
    · simp only [Value.ownBlock, ne_eq, Option.some.injEq]
      rintro rfl
      rw [h2] at hg; cases hg
/-- Nothing is turned but the program's own blocks. -/
def Fr3 (P mb : Nat) (v : Value) (w w' : World) : Prop := w'.os = w.os ∧ w'.tape = w.tape ∧ w'.output = w.output ∧ w.heap.size ≤ w'.heap.size ∧ ∀ k, k < w.heap.size → k ≠ P → k ≠ mb → v.ownBlock ≠ some k → w'.heap[k]? = w.heap[k]?
theorem Fr3.of_below {P mb : Nat} {v : Value} {w w' : World} (h : Below w.heap.size w w') : Fr3 P mb v w w' := ⟨h.os, h.tape, h.output, h.size, fun k hk _ _ _ => h.block k hk⟩
theorem Fr3.trans {P mb : Nat} {v : Value} {a b c : World} (h : Fr3 P mb v a b) (g : Fr3 P mb v b c) : Fr3 P mb v a c :=
  ⟨g.1.trans h.1, g.2.1.trans h.2.1, g.2.2.1.trans h.2.2.1, Nat.le_trans h.2.2.2.1 g.2.2.2.1, fun k hk h1 h2 h3 => (g.2.2.2.2 k (Nat.lt_of_lt_of_le hk h.2.2.2.1) h1 h2 h3).trans (h.2.2.2.2 k hk h1 h2 h3)⟩
theorem Fr3.of_grown_map {P mb : Nat} {v : Value} {w w' : World} (h : w.grownBy w' (some mb)) : Fr3 P mb v w w' :=
  ⟨h.os, h.tape, h.output, h.size, fun k hk _ h2 _ => h.block k hk (fun e => h2 (by injection e))⟩
theorem Fr3.of_grown_row {P mb : Nat} {v : Value} {w w' : World} (h : w.grownBy w' v.ownBlock) : Fr3 P mb v w w' :=
  ⟨h.os, h.tape, h.output, h.size, fun k hk _ _ h3 => h.block k hk (fun e => h3 e.symm)⟩
theorem Fr3.of_only {P mb : Nat} {v : Value} {w w' : World} (h : OnlyB P w w') : Fr3 P mb v w w' :=
  ⟨h.1, h.2.1, h.2.2.1, Nat.le_of_eq h.2.2.2.1.symm, fun k _ h1 _ _ => h.2.2.2.2 k h1⟩
/-- A store into a block that was not there. -/
theorem Fr3.of_only_new {P mb S : Nat} {v : Value} {a b c : World} (h : Fr3 P mb v a b) (g : OnlyB S b c) (hS : a.heap.size ≤ S) : Fr3 P mb v a c :=
  ⟨g.1.trans h.1, g.2.1.trans h.2.1, g.2.2.1.trans h.2.2.1, by rw [g.2.2.2.1]; exact h.2.2.2.1, fun k hk h1 h2 h3 => (g.2.2.2.2 k (by omega)).trans (h.2.2.2.2 k hk h1 h2 h3)⟩

theorem own_only {w w' : World} {base B s n : Nat} {e : TypeId} {v : Value} {xs : List Value} (h : w.ownsRow base e s v n xs) (ho : OnlyB B w w') (hne : v.ownBlock ≠ some B) : w'.ownsRow base e s v n xs := by
  refine ⟨h.1, ?_⟩
  rcases h.2 with hn | ⟨g, cap, cur, rfl, hb, hg, rest⟩
  · exact .inl hn
  · refine .inr ⟨g, cap, cur, rfl, hb, ?_, rest⟩
    rw [ho.2.2.2.2 g (fun e => hne (by rw [e]; rfl))]; exact hg
/-- The row of statements stored anew. -/
theorem prG_put {w : World} {B P mb : Nat} {v0 v : Value} {st : St} (h1 : w.heap[P]? = some (.cells #[.map (some mb), v0] 36)) (h2 : ∃ D, MapAt w mb st.2.1.length D ∧ LabIs D st.2.1 st.2.2) (h3 : w.ownsRow B 55 10 v st.1.length (stCells st.1)) : PrG (w.setCell ⟨P, 1, none⟩ v) B P mb v st := by
  obtain ⟨D, h2, h4⟩ := h2
  have ho : OnlyB P w (w.setCell ⟨P, 1, none⟩ v) := (OnlyB.refl _ _).set 1 _
  refine ⟨by rw [row_step h1]; rfl, ⟨D, mapAt_only h2 ho ?_, h4⟩, own_only h3 ho ?_⟩
  · rintro rfl
    obtain ⟨es, cl, h2, _⟩ := h2
    rw [h1] at h2; cases h2
  · rcases h3.2 with ⟨rfl, _⟩ | ⟨g, cap, cur, rfl, _, hg, _⟩
    · simp [Value.ownBlock]
    · simp only [Value.ownBlock, ne_eq, Option.some.injEq]
      rintro rfl
      rw [h1] at hg
      simp only [Option.some.injEq, Obj.cells.injEq] at hg
      exact absurd hg.2.1 (by decide)
theorem mapAt_kept {w w' : World} {mb n : Nat} {D : DataW Unit} {row : Option Nat} (h : MapAt w mb n D) (hg : w.grownBy w' row) (hne : row ≠ some mb) : MapAt w' mb n D := World.ownsMap.kept h hg (fun e => hne e.symm)
theorem stB_grown {w w' : World} {B : Nat} {kd ln pl : Int} {x : It} {row : Option Nat} (h : StB w B kd ln pl x) (hg : w.grownBy w' row) (hne : row ≠ some B) : StB w' B kd ln pl x := by
  unfold StB at *
  rw [hg.block B (Array.getElem?_eq_some_iff.1 h).1 (fun e => hne e.symm)]; exact h
/-- What is behind a label. -/
def bodyG (ill : Bool) (n : Int) (p : List (List UInt8)) (st : St) : St ⊕ (Int × Int) :=
  if p = [] then .inl st
  else match readG ill p with
    | none => .inr (n + 1, 1)
    | some x => if st.1.length = 4096 then .inr (n + 1, 3) else .inl (st.1 ++ [(x, n + 1)], st.2)
/-- A line, taken up as the program does. -/
def stepG (ill : Bool) (n : Int) (l : List UInt8) (st : St) : St ⊕ (Int × Int) :=
  match piecesL l with
  | none => .inr (n + 1, 1)
  | some p =>
    if restG p ≠ [] ∧ readG ill (restG p) = none then .inr (n + 1, 1)
    else if labG p ≠ [] then
      (if 0 ≤ findN st.2.1 (labG p) then .inr (n + 1, 1) else bodyG ill n (restG p) (st.1, st.2.1 ++ [labG p], st.2.2 ++ [4 * (st.1.length : Int)]))
    else bodyG ill n (restG p) st
def AddAs (r : St ⊕ (Int × Int)) (B P mb : Nat) (v : Value) (w : World) (e : Ending) (w' : World) : Prop :=
  Fr3 P mb v w w' ∧ ((∃ st' v', r = .inl st' ∧ e = .returned (.int .i64 0) ∧ PrG w' B P mb v' st') ∨ (∃ n er, r = .inr (n, er) ∧ e = .returned (.int .i64 er) ∧ er ≠ 0))
/-- What behindLabel answers, in one form. -/
def BlOk (p : List (List UInt8)) (kd pl : Int) (x : It) : Prop := (p = [] ∧ kd = 0) ∨ (p ≠ [] ∧ readG false p = some x ∧ kd = kdI x ∧ pl = plI x)
theorem readG_raw {ill : Bool} {ps : List (List UInt8)} {x : It} (h : readG ill ps = some x) (hr : x.2.2.2.2.2.2.2.2 = true) : x = (0, 0, 0, 0, 0, 0, [], x.2.2.2.2.2.2.2.1, true) := by
  unfold readG at h
  split at h
  · obtain ⟨n, _, rfl⟩ := Option.map_eq_some_iff.1 h
    rfl
  · rw [insG_raw h] at hr; cases hr
theorem BlAs.cases {ps : List (List UInt8)} {e : Ending} (h : BlAs ps e) : (∃ kd pl x, e = .returned (.tuple #[stV kd 0 pl x, .int .i64 0]) ∧ BlOk ps kd pl x) ∨ ((ps ≠ [] ∧ readG false ps = none) ∧ ∃ kd pl, e = .returned (.tuple #[stV kd 0 pl it0, .int .i64 1])) := by
  rcases h with ⟨h1, h2⟩ | ⟨h1, x, h2, ⟨h3, h4⟩ | ⟨h3, h4⟩⟩ | ⟨h1, h2, h3⟩
  · exact .inl ⟨0, 0, it0, h2, .inl ⟨h1, rfl⟩⟩
  · refine .inl ⟨1, x.2.2.2.2.2.2.2.1, x, ?_, .inr ⟨h1, h2, ?_, ?_⟩⟩
    · rw [h4, readG_raw h2 h3]; rfl
    · unfold kdI; rw [if_pos h3]
    · unfold plI; rw [if_pos h3]
  · refine .inl ⟨2, 0, x, h4, .inr ⟨h1, h2, ?_, ?_⟩⟩
    · unfold kdI; rw [h3]; rfl
    · unfold plI; rw [h3]; rfl
  · exact .inr ⟨⟨h1, h2⟩, h3⟩
end Go.Proofs.YthgolbmngjdbeaaGreatDoor

/- Layer 6, the program's own add, walked. -/
namespace Go.Proofs.YthgolbmngjdbeaaGreatDoor
open Go.RowKit
set_option linter.unusedVariables false
set_option linter.unusedSimpArgs false

set_option maxRecDepth 100000 in
set_option maxHeartbeats 16000000 in
theorem add_any (l : List UInt8) (n : Nat) (st : St) (B P mb : Nat) (v : Value) (w : World) (hl : l.length ≤ 70000) (hn : n ≤ 100000) (hst : st.1.length ≤ 4096) (hns : st.2.1.length ≤ n) (hads : st.2.2.length = st.2.1.length) (hB : B ≤ w.heap.size) (hP : PrG w B P mb v st) (hF : FormTab w) (hN : NameTab w) (hS : SpTab w) :
    Calls Tryz.prog 9 #[.pointer (some ⟨P, 0, none⟩), .int .i64 ((n : Int) + 1), .string (bs l)] w (AddAs (stepG false n l st) B P mb v w) := by
  obtain ⟨i0, hi, hz0, hz1, hz2⟩ := info_parts (P := Tryz.prog) (e := 55) (z := .agg #[.int .i64 0, .int .i64 0, .int .u32 0, .int .i64 0, .int .i64 0, .int .i64 0, .int .i64 0, .int .u32 0, .int .i64 0, .string ⟨#[]⟩]) (size := 10) (bytes := 88) (by kernel_rfl)
  have HL := Lib.hid hl
  have HST := Lib.hid hst
  have HNS := Lib.hid hns
  have HADS := Lib.hid hads
  have HBB := Lib.hid hB
  have HP := Lib.hid hP
  have HF := Lib.hid hF
  have HN := Lib.hid hN
  have HS := Lib.hid hS
  have HNN := Lib.hid hn
  clear hl hns hads hB hP hF hN hS
  go_enter Tryz.func9, Tryz.ntmps9
  go_wp2_with fail
  refine (pieces6_any l _ HL.out).mono ?_
  rintro e w1 ⟨hcase, hb1⟩
  have HB1 : Hid (Below w.heap.size w w1) := hb1
  clear hb1
  rcases hcase with ⟨ps, vp, hps, rfl, hown⟩ | ⟨hps, rfl⟩
  · have HV := Lib.hid (isStrs_own hown)
    have HCP : Hid (CapOk vp) := own_cap6 hown
    have HPB := Lib.hid (pieces_bd hps HL.out)
    have HSG : Hid (stepG false n l st = if restG ps ≠ [] ∧ readG false (restG ps) = none then .inr ((n : Int) + 1, 1)
      else if labG ps ≠ [] then
        (if 0 ≤ findN st.2.1 (labG ps) then .inr ((n : Int) + 1, 1) else bodyG false n (restG ps) (st.1, st.2.1 ++ [labG ps], st.2.2 ++ [4 * (st.1.length : Int)]))
      else bodyG false n (restG ps) st) := by
      show stepG false n l st = _
      unfold stepG; rw [hps]
    clear hown hps
    go_wp2_with fail
    refine (cutlab_any ps vp w1 HPB.out.1 HPB.out.2 HV.out HCP.out).mono ?_
    rintro e w2 ⟨v', rfl, hv', hcp', hq2⟩
    have HB2 : Hid (Below w.heap.size w w2) := HB1.out.trans ((hq2.below _))
    have HV2 : Hid (IsStrs w2 v' (restG ps)) := hv'.on (hq2.below _)
    have HCP2 := Lib.hid hcp'
    have HPR : Hid ((∀ p ∈ restG ps, p.length ≤ 70000) ∧ (restG ps).length ≤ 200000) := by
      unfold restG
      split
      · exact ⟨fun p hp => HPB.out.1 p (List.mem_of_mem_drop hp), by have := HPB.out.2; simp; omega⟩
      · exact HPB.out
    have HLB : Hid ((labG ps).length ≤ 70000) := by
      show _ ≤ _
      unfold labG
      split
      · rename_i g
        exact HPB.out.1 _ (by rw [List.getD_eq_getElem?_getD, List.getElem?_eq_getElem (by have := g.1; omega)]; exact List.getElem_mem _)
      · simp
    clear hv' hcp' hq2 HV HCP HPB
    generalize restG ps = rs at *
    generalize labG ps = lab at *
    go_wp2_with fail
    refine (behind_any rs v' w2 HPR.out.2 HPR.out.1 HV2.out HCP2.out (HF.out.below HB2.out) (HN.out.below HB2.out) (spTab_below HS.out HB2.out)).mono ?_
    rintro e w3 ⟨hbl, hb3⟩
    have HB3 : Hid (Below w.heap.size w w3) := HB2.out.trans (hb3.mono HB2.out.size)
    have HP3 := Lib.hid (HP.out.on HB3.out)
    clear hb3 HV2 HCP2 HPR HB1 HB2
    rcases hbl.cases with ⟨kd, pl, x, rfl, hok⟩ | ⟨hno, kd, pl, rfl⟩
    · have HOK := Lib.hid hok
      clear hok hbl
      obtain ⟨pa, pc, hv⟩ := gown_slice HP3.out.2.2
      subst hv
      have HKX : Hid (kd = 0 ∨ kd = kdI x) := HOK.out.elim (fun h => .inl h.2) (fun h => .inr h.2.2.1)
      have HNE := Lib.hid HP3.out.ne
      have HPL : Hid (P < w3.heap.size ∧ mb < w3.heap.size) := ⟨(Array.getElem?_eq_some_iff.1 HP3.out.1).1, by obtain ⟨_, ⟨D, hD, _⟩, _⟩ := HP3.out; exact World.ownsMap.lt hD⟩
      obtain ⟨c0, c1⟩ := HP3.out.cells
      have cf := HP3.out.free
      have hp1 : P ≠ w3.heap.size := by have := HPL.out; omega
      have ca0 : ∀ o, (w3.alloc o).cell? ⟨P, 0, none⟩ = some (.map (some mb)) := fun o => (HP3.out.on ((Below.refl _ _).alloc (Nat.le_refl _) o)).cells.1
      have ca1 : ∀ o, (w3.alloc o).cell? ⟨P, 1, none⟩ = some (.slice pa st.1.length pc) := fun o => (HP3.out.on ((Below.refl _ _).alloc (Nat.le_refl _) o)).cells.2
      unfold stV
      by_cases hlab : lab = []
      · have HSB : Hid (stepG false n l st = bodyG false n rs st) := by
          show stepG false n l st = _
          rw [HSG.out, if_neg, if_neg (fun q => q hlab)]
          rintro ⟨q1, q2⟩
          rcases HOK.out with ⟨q, _⟩ | ⟨_, q, _⟩
          · exact q1 q
          · rw [q2] at q; cases q
        subst hlab
        have hnil : bs ([] : List UInt8) = ⟨#[]⟩ := rfl
        rw [hnil]
        by_cases hk0 : kd = 0
        · subst hk0
          have HE : Hid (stepG false n l st = .inl st) := by
            show stepG false n l st = _
            rw [HSB.out]; unfold bodyG
            rcases HOK.out with ⟨q, _⟩ | ⟨_, _, q, _⟩
            · rw [if_pos q]
            · unfold kdI at q; split at q <;> cases q
          go_wp2
          go_ret
          exact ⟨Fr3.of_below (HB3.out.alloc HB3.out.size _), .inl ⟨st, _, HE.out, rfl, HP3.out.on ((Below.refl _ _).alloc (Nat.le_refl _) _)⟩⟩
        · have hk0' : (kd == 0) = false := by rw [beq_eq_false_iff_ne]; exact hk0
          have HRD : Hid (rs ≠ [] ∧ readG false rs = some x ∧ kd = kdI x ∧ pl = plI x) := by
            rcases HOK.out with ⟨_, q⟩ | q
            · exact absurd q hk0
            · exact q
          clear hk0
          by_cases h4 : st.1.length = 4096
          · have h4' : ((st.1.length : Int) == 4096) = true := by rw [h4]; rfl
            have HE : Hid (stepG false n l st = .inr ((n : Int) + 1, 3)) := by
              show stepG false n l st = _
              rw [HSB.out]; unfold bodyG
              rw [if_neg HRD.out.1, HRD.out.2.1]
              show (if _ then _ else _) = _
              rw [if_pos h4]
            clear h4
            go_wp2
            go_ret
            exact ⟨Fr3.of_below (HB3.out.alloc HB3.out.size _), .inr ⟨_, 3, HE.out, rfl, by decide⟩⟩
          · have h4' : ((st.1.length : Int) == 4096) = false := by rw [beq_eq_false_iff_ne]; omega
            have HE : Hid (stepG false n l st = .inl (st.1 ++ [(x, (n : Int) + 1)], st.2)) := by
              show stepG false n l st = _
              rw [HSB.out]; unfold bodyG
              rw [if_neg HRD.out.1, HRD.out.2.1]
              show (if _ then _ else _) = _
              rw [if_neg h4]
            clear h4
            go_wp2_with fail
            obtain ⟨W, hW⟩ : ∃ W, w3.alloc (.cells #[.int .i64 kd, .int .i64 ((n : Int) + 1), .int .u32 pl, .int .i64 x.1, .int .i64 x.2.1, .int .i64 x.2.2.1, .int .i64 x.2.2.2.1, .int .u32 x.2.2.2.2.1, .int .i64 x.2.2.2.2.2.1, .string (bs x.2.2.2.2.2.2.1)] 55) = W := ⟨_, rfl⟩
            have HT : Hid (StB W w3.heap.size kd ((n : Int) + 1) pl x) := by
              show StB _ _ _ _ _ _
              rw [← hW]; exact heap_alloc_new w3 _
            have HPW : Hid (PrG W B P mb (.slice pa st.1.length pc) st) := by
              show PrG _ _ _ _ _ _
              rw [← hW]; exact HP3.out.on ((Below.refl _ _).alloc (Nat.le_refl _) _)
            have HFR : Hid (Fr3 P mb (.slice pa st.1.length pc) w W) := by
              show Fr3 _ _ _ _ _
              rw [← hW]; exact Fr3.of_below (HB3.out.alloc HB3.out.size _)
            have HSW : Hid (w3.heap.size < W.heap.size ∧ w.heap.size ≤ w3.heap.size) := by
              refine ⟨?_, HB3.out.size⟩
              rw [← hW]; simp
            rw [hW]
            clear hW c0 c1 cf ca0 ca1 hp1
            obtain ⟨t0, t1, t2, t3, t4, t5, t6, t7, t8, t9⟩ := HT.out.cells
            obtain ⟨d0, d1⟩ := HPW.out.cells
            have df := HPW.out.free 1
            have hown := HPW.out.2.2
            have hPlt : P < W.heap.size := (Array.getElem?_eq_some_iff.1 HPW.out.1).1
            have hn1 : P ≠ W.heap.size := by omega
            have hn2 : w3.heap.size ≠ W.heap.size := by have := HSW.out; omega
            have hbase : B ≤ W.heap.size := by have := HBB.out; have := HFR.out.2.2.2.1; omega
            have hsm : st.1.length ≤ 4095 := by have := HST.out; simp at h4'; omega
            have s1 : Hid ((1 : Nat) * 10 = 10) := rfl
            have sE : Hid (∀ u ∈ ([.int .i64 kd, .int .i64 ((n : Int) + 1), .int .u32 pl, .int .i64 x.1, .int .i64 x.2.1, .int .i64 x.2.2.1, .int .i64 x.2.2.2.1, .int .u32 x.2.2.2.2.1, .int .i64 x.2.2.2.2.2.1, .string (bs x.2.2.2.2.2.2.1)] : List Value), u.oneCell' = true) := by
              intro u hu
              simp only [List.mem_cons, List.not_mem_nil, or_false] at hu
              rcases hu with rfl | rfl | rfl | rfl | rfl | rfl | rfl | rfl | rfl | rfl <;> rfl
            have sM : Hid (st.1.length + 1 ≤ maxLen) := by show _ ≤ _; unfold maxLen; omega
            have sB : Hid ((st.1.length + 1) * 88 ≤ 140737488355328) := by show _ ≤ _; omega
            have HNB := Lib.hid HPW.out.ne
            have HW1 := Lib.hid HPW.out.1
            go_region_law (refine step_append_lies _ rfl (.tmp 73) (.tmp 75) 34 rfl B 55 i0 _ 10 88 Tryz.underlying34 hi hz0 hz1 hz2 rfl (by decide) (.slice pa st.1.length pc) st.1.length (stCells st.1) (by simp [Act.eval, Act.put]) ((hown.alloc _).drew) ⟨W.heap.size, 0, none⟩ 1 1 [.int .i64 kd, .int .i64 ((n : Int) + 1), .int .u32 pl, .int .i64 x.1, .int .i64 x.2.1, .int .i64 x.2.2.1, .int .i64 x.2.2.2.1, .int .u32 x.2.2.2.2.1, .int .i64 x.2.2.2.2.2.1, .string (bs x.2.2.2.2.2.2.1)] (by simp [Act.eval, Act.put]) rfl (World.news_of_block (cs := #[.int .i64 kd, .int .i64 ((n : Int) + 1), .int .u32 pl, .int .i64 x.1, .int .i64 x.2.1, .int .i64 x.2.2.1, .int .i64 x.2.2.2.1, .int .u32 x.2.2.2.2.1, .int .i64 x.2.2.2.2.2.1, .string (bs x.2.2.2.2.2.2.1)]) (t := 55) (fr := (0, 0)) (heap_alloc_new W _)) sE.out (by omega) sM.out sB.out (by simp; omega) (W.heap.size + 1) (by simp) ?_; intro gg cap w6 hown6 hgrow6 hat6 hlt6; have HP6 : Hid (w6.heap[P]? = some (.cells #[.map (some mb), .slice pa st.1.length pc] 36)) := (hgrow6.block P (by simp; omega) (fun e => HNB.out.2.1 e.symm)).trans ((Below.heap_alloc W _ P hPlt).trans HW1.out); have q1 : w6.cell? ⟨P, 1, none⟩ = some (.slice pa st.1.length pc) := (by have h := HP6.out; simp [World.cell?, h]); have q2 : w6.frozen? ⟨P, 1, none⟩ = false := (by have h := HP6.out; simp [World.frozen?, h]))
            all_goals
              go_wp2
              go_ret
              have HFA : Hid (Fr3 P mb (.slice pa st.1.length pc) w w6) := (HFR.out.trans (Fr3.of_below (((Below.refl _ W).alloc (Nat.le_refl _) _).drew))).trans (Fr3.of_grown_row hgrow6)
              refine ⟨HFA.out.trans (Fr3.of_only ((OnlyB.refl _ _).set 1 _)), .inl ⟨_, _, HE.out, rfl, prG_put HP6.out ?_ ?_⟩⟩
              · obtain ⟨D, hD1, hD2⟩ := HPW.out.2.1
                exact ⟨D, mapAt_kept (mapAt_on hD1 (((Below.refl _ W).alloc (Nat.le_refl _) _).drew)) hgrow6 HNB.out.2.2, hD2⟩
              · show World.ownsRow _ _ _ _ _ (st.1 ++ [(x, (n : Int) + 1)]).length (stCells (st.1 ++ [(x, (n : Int) + 1)]))
                rw [stCells_app, List.length_append]
                have hk := HRD.out.2.2.1
                have hp := HRD.out.2.2.2
                subst hk
                subst hp
                exact hown6
      · have hb1 := bs_ne hlab
        have hb2 := bs_ne' hlab
        have HLN : Hid (lab ≠ []) := hlab
        have HNR : Hid (¬ (rs ≠ [] ∧ readG false rs = none)) := by
          rintro ⟨q1, q2⟩
          rcases HOK.out with ⟨q, _⟩ | ⟨_, q, _⟩
          · exact q1 q
          · rw [q2] at q; cases q
        have HLK : Hid (∀ o, (Instr.lookup 33 (.map (some mb)) (.string (bs lab)) true).run Tryz.prog (w3.alloc o) = .ok (.tuple #[.int .u32 (if 0 ≤ findN st.2.1 lab then st.2.2.getD (findN st.2.1 lab).toNat 0 else 0), .bool (decide (0 ≤ findN st.2.1 lab))]) (w3.alloc o)) := fun o => by
          obtain ⟨D, hD1, hD2⟩ := HP3.out.2.1
          exact look_any (mapAt_on hD1 ((Below.refl _ _).alloc (Nat.le_refl _) o)) hD2 lab HLB.out
        clear hlab
        by_cases hf : 0 ≤ findN st.2.1 lab
        · have HE : Hid (stepG false n l st = .inr ((n : Int) + 1, 1)) := by
            show stepG false n l st = _
            rw [HSG.out, if_neg HNR.out, if_pos HLN.out, if_pos hf]
          have hlk := HLK.out
          rw [if_pos hf, decide_eq_true hf] at hlk
          clear hf
          generalize st.2.2.getD (findN st.2.1 lab).toNat 0 = av at *
          go_wp2
          go_ret
          exact ⟨Fr3.of_below (HB3.out.alloc HB3.out.size _), .inr ⟨_, 1, HE.out, rfl, by decide⟩⟩
        · have HSB : Hid (stepG false n l st = bodyG false n rs (st.1, st.2.1 ++ [lab], st.2.2 ++ [4 * (st.1.length : Int)])) := by
            show stepG false n l st = _
            rw [HSG.out, if_neg HNR.out, if_pos HLN.out, if_neg hf]
          have hlk := HLK.out
          rw [if_neg hf, decide_eq_false hf] at hlk
          have HNF : Hid (findN st.2.1 lab < 0) := by show _ < _; omega
          clear hf
          go_wp2_with fail
          obtain ⟨W4, hW4⟩ : ∃ W, w3.alloc (.cells #[.int .i64 kd, .int .i64 0, .int .u32 pl, .int .i64 x.1, .int .i64 x.2.1, .int .i64 x.2.2.1, .int .i64 x.2.2.2.1, .int .u32 x.2.2.2.2.1, .int .i64 x.2.2.2.2.2.1, .string (bs x.2.2.2.2.2.2.1)] 55) = W := ⟨_, rfl⟩
          have HT4 : Hid (StB W4 w3.heap.size kd 0 pl x) := by
            show StB _ _ _ _ _ _
            rw [← hW4]; exact heap_alloc_new w3 _
          have HP4 : Hid (PrG W4 B P mb (.slice pa st.1.length pc) st) := by
            show PrG _ _ _ _ _ _
            rw [← hW4]; exact HP3.out.on ((Below.refl _ _).alloc (Nat.le_refl _) _)
          have HF4 : Hid (Fr3 P mb (.slice pa st.1.length pc) w W4) := by
            show Fr3 _ _ _ _ _
            rw [← hW4]; exact Fr3.of_below (HB3.out.alloc HB3.out.size _)
          have HS4 : Hid (w3.heap.size < W4.heap.size ∧ w.heap.size ≤ w3.heap.size) := by
            refine ⟨?_, HB3.out.size⟩
            rw [← hW4]; simp
          rw [hW4]
          clear hW4 c0 c1 cf ca0 ca1 hp1 hlk HLK
          obtain ⟨W5, hrun5, hM5, hg5⟩ : ∃ w', (Instr.mapUpdate 33 (.map (some mb)) (.string (bs lab)) (.int .u32 (4 * (st.1.length : Int)))).run Tryz.prog W4.drew = .ok () w' ∧ (∃ D', MapAt w' mb (st.2.1.length + 1) D' ∧ LabIs D' (st.2.1 ++ [lab]) (st.2.2 ++ [4 * (st.1.length : Int)])) ∧ W4.drew.grownBy w' (some mb) := by
            obtain ⟨D, hD1, hD2⟩ := HP4.out.2.1
            exact upd_any (w := W4.drew) hD1 hD2 lab HLB.out _ (by have := HST.out; omega) (by have := HNS.out; unfold maxLen; omega) HNF.out HADS.out
          have HM5 := Lib.hid hM5
          have HG5 := Lib.hid hg5
          have HNB4 := Lib.hid HP4.out.ne
          have HP5 : Hid (W5.heap[P]? = some (.cells #[.map (some mb), .slice pa st.1.length pc] 36)) := (HG5.out.block P (Array.getElem?_eq_some_iff.1 HP4.out.1).1 (fun e => HNB4.out.1 (by injection e))).trans HP4.out.1
          have HSmb : Hid (mb ≠ w3.heap.size) := by have := HPL.out; show mb ≠ _; omega
          have HT5 : Hid (StB W5 w3.heap.size kd 0 pl x) := stB_grown (w := W4.drew) HT4.out HG5.out (fun e => HSmb.out (by injection e))
          have HR5 : Hid (PrG W5 B P mb (.slice pa st.1.length pc) (st.1, st.2.1 ++ [lab], st.2.2 ++ [4 * (st.1.length : Int)])) := by
            refine ⟨HP5.out, ?_, World.ownsRow.kept (w := W4.drew) HP4.out.2.2 HG5.out (by first | exact .inr HNB4.out.2.2 | exact HNB4.out.2.2)⟩
            obtain ⟨D, hD1, hD2⟩ := HM5.out
            exact ⟨D, by show MapAt _ _ (st.2.1 ++ [lab]).length _; rw [List.length_append]; exact hD1, hD2⟩
          have HF5 : Hid (Fr3 P mb (.slice pa st.1.length pc) w W5) := (HF4.out.trans (Fr3.of_below ((Below.refl _ W4).drew))).trans (Fr3.of_grown_map HG5.out)
          have HS5 : Hid (w3.heap.size < W5.heap.size ∧ w.heap.size ≤ w3.heap.size) := ⟨Nat.lt_of_lt_of_le HS4.out.1 HG5.out.size, HS4.out.2⟩
          obtain ⟨k0, k1⟩ := HP4.out.cells
          obtain ⟨k0', k1'⟩ := HR5.out.cells
          clear hM5 hg5
          have HAD : Hid (∀ w, Calls Tryz.prog 23 #[.int .i64 st.1.length] w fun e w' => e = .returned (.int .u32 (4 * (st.1.length : Int))) ∧ w' = w) := fun w => addr_any _ w (by have := HST.out; omega)
          go_region_held3 (fun w' => w'.cell? ⟨P, 0, none⟩ = some (.map (some mb)) ∧ w'.cell? ⟨P, 1, none⟩ = some (.slice pa st.1.length pc)) (first | (refine ⟨?_, ?_⟩ <;> assumption) | go_keep)
            (first | (go_at_call 23; refine (HAD.out _).mono ?_; rintro e w' ⟨rfl, hw⟩; have hw := hw.symm; subst hw))
          clear k0 k1 k0' k1'
          obtain ⟨c0, c1⟩ := HR5.out.cells
          obtain ⟨t0, t1, t2, t3, t4, t5, t6, t7, t8, t9⟩ := HT5.out.cells
          have tf := HT5.out.free
          by_cases hk0 : kd = 0
          · subst hk0
            have HE : Hid (stepG false n l st = .inl (st.1, st.2.1 ++ [lab], st.2.2 ++ [4 * (st.1.length : Int)])) := by
              show stepG false n l st = _
              rw [HSB.out]; unfold bodyG
              rcases HOK.out with ⟨q, _⟩ | ⟨_, _, q, _⟩
              · rw [if_pos q]
              · unfold kdI at q; split at q <;> cases q
            go_wp2
            go_ret
            exact ⟨HF5.out, .inl ⟨_, _, HE.out, rfl, HR5.out⟩⟩
          · have hk0' : (kd == 0) = false := by rw [beq_eq_false_iff_ne]; exact hk0
            have HRD : Hid (rs ≠ [] ∧ readG false rs = some x ∧ kd = kdI x ∧ pl = plI x) := by
              rcases HOK.out with ⟨_, q⟩ | q
              · exact absurd q hk0
              · exact q
            clear hk0
            by_cases h4 : st.1.length = 4096
            · have h4' : ((st.1.length : Int) == 4096) = true := by rw [h4]; rfl
              have HE : Hid (stepG false n l st = .inr ((n : Int) + 1, 3)) := by
                show stepG false n l st = _
                rw [HSB.out]; unfold bodyG
                rw [if_neg HRD.out.1, HRD.out.2.1]
                show (if _ then _ else _) = _
                rw [if_pos h4]
              clear h4
              go_wp2
              go_ret
              exact ⟨HF5.out, .inr ⟨_, 3, HE.out, rfl, by decide⟩⟩
            · have h4' : ((st.1.length : Int) == 4096) = false := by rw [beq_eq_false_iff_ne]; omega
              have HE : Hid (stepG false n l st = .inl (st.1 ++ [(x, (n : Int) + 1)], st.2.1 ++ [lab], st.2.2 ++ [4 * (st.1.length : Int)])) := by
                show stepG false n l st = _
                rw [HSB.out]; unfold bodyG
                rw [if_neg HRD.out.1, HRD.out.2.1]
                show (if _ then _ else _) = _
                rw [if_neg h4]
              clear h4
              go_wp2_with fail
              obtain ⟨W, hW⟩ : ∃ W, W5.setCell ⟨w3.heap.size, 1, none⟩ (.int .i64 ((n : Int) + 1)) = W := ⟨_, rfl⟩
              have HOS : Hid (OnlyB w3.heap.size W5 W) := by
                show OnlyB _ _ _
                rw [← hW]; exact (OnlyB.refl _ _).set 1 _
              have HT : Hid (StB W w3.heap.size kd ((n : Int) + 1) pl x) := by
                show StB _ _ _ _ _ _
                rw [← hW]
                have h5 := HT5.out
                unfold StB at h5 ⊢
                rw [row_step h5]; rfl
              have HPW : Hid (PrG W B P mb (.slice pa st.1.length pc) (st.1, st.2.1 ++ [lab], st.2.2 ++ [4 * (st.1.length : Int)])) := by
                obtain ⟨g1, ⟨D, g2, g3⟩, g4⟩ := HR5.out
                refine ⟨by rw [HOS.out.2.2.2.2 P (by have := HPL.out; omega)]; exact g1, ⟨D, mapAt_only g2 HOS.out HSmb.out, g3⟩, own_only g4 HOS.out ?_⟩
                rcases HP3.out.2.2.2 with ⟨e, _⟩ | ⟨g, cap, cur, e, _, hg, _⟩
                · rw [e]; simp [Value.ownBlock]
                · rw [e]
                  simp only [Value.ownBlock, ne_eq, Option.some.injEq]
                  have := (Array.getElem?_eq_some_iff.1 hg).1
                  omega
              have HFR : Hid (Fr3 P mb (.slice pa st.1.length pc) w W) := Fr3.of_only_new HF5.out HOS.out HS5.out.2
              have HSW : Hid (w3.heap.size < W.heap.size ∧ w.heap.size ≤ w3.heap.size) := ⟨by rw [HOS.out.2.2.2.1]; exact HS5.out.1, HS5.out.2⟩
              rw [hW]
              clear hW c0 c1 t0 t1 t2 t3 t4 t5 t6 t7 t8 t9 tf hrun5
              obtain ⟨t0, t1, t2, t3, t4, t5, t6, t7, t8, t9⟩ := HT.out.cells
              obtain ⟨d0, d1⟩ := HPW.out.cells
              have df := HPW.out.free 1
              have hown := HPW.out.2.2
              have hPlt : P < W.heap.size := (Array.getElem?_eq_some_iff.1 HPW.out.1).1
              have hn1 : P ≠ W.heap.size := by omega
              have hn2 : w3.heap.size ≠ W.heap.size := by have := HSW.out; omega
              have hbase : B ≤ W.heap.size := by have := HBB.out; have := HFR.out.2.2.2.1; omega
              have hsm : st.1.length ≤ 4095 := by have := HST.out; simp at h4'; omega
              have s1 : Hid ((1 : Nat) * 10 = 10) := rfl
              have sE : Hid (∀ u ∈ ([.int .i64 kd, .int .i64 ((n : Int) + 1), .int .u32 pl, .int .i64 x.1, .int .i64 x.2.1, .int .i64 x.2.2.1, .int .i64 x.2.2.2.1, .int .u32 x.2.2.2.2.1, .int .i64 x.2.2.2.2.2.1, .string (bs x.2.2.2.2.2.2.1)] : List Value), u.oneCell' = true) := by
                intro u hu
                simp only [List.mem_cons, List.not_mem_nil, or_false] at hu
                rcases hu with rfl | rfl | rfl | rfl | rfl | rfl | rfl | rfl | rfl | rfl <;> rfl
              have sM : Hid (st.1.length + 1 ≤ maxLen) := by show _ ≤ _; unfold maxLen; omega
              have sB : Hid ((st.1.length + 1) * 88 ≤ 140737488355328) := by show _ ≤ _; omega
              have HNB := Lib.hid HPW.out.ne
              have HW1 := Lib.hid HPW.out.1
              go_region_law (refine step_append_lies _ rfl (.tmp 73) (.tmp 75) 34 rfl B 55 i0 _ 10 88 Tryz.underlying34 hi hz0 hz1 hz2 rfl (by decide) (.slice pa st.1.length pc) st.1.length (stCells st.1) (by simp [Act.eval, Act.put]) ((hown.alloc _).drew) ⟨W.heap.size, 0, none⟩ 1 1 [.int .i64 kd, .int .i64 ((n : Int) + 1), .int .u32 pl, .int .i64 x.1, .int .i64 x.2.1, .int .i64 x.2.2.1, .int .i64 x.2.2.2.1, .int .u32 x.2.2.2.2.1, .int .i64 x.2.2.2.2.2.1, .string (bs x.2.2.2.2.2.2.1)] (by simp [Act.eval, Act.put]) rfl (World.news_of_block (cs := #[.int .i64 kd, .int .i64 ((n : Int) + 1), .int .u32 pl, .int .i64 x.1, .int .i64 x.2.1, .int .i64 x.2.2.1, .int .i64 x.2.2.2.1, .int .u32 x.2.2.2.2.1, .int .i64 x.2.2.2.2.2.1, .string (bs x.2.2.2.2.2.2.1)]) (t := 55) (fr := (0, 0)) (heap_alloc_new W _)) sE.out (by omega) sM.out sB.out (by simp; omega) (W.heap.size + 1) (by simp) ?_; intro gg cap w6 hown6 hgrow6 hat6 hlt6; have HP6 : Hid (w6.heap[P]? = some (.cells #[.map (some mb), .slice pa st.1.length pc] 36)) := (hgrow6.block P (by simp; omega) (fun e => HNB.out.2.1 e.symm)).trans ((Below.heap_alloc W _ P hPlt).trans HW1.out); have q1 : w6.cell? ⟨P, 1, none⟩ = some (.slice pa st.1.length pc) := (by have h := HP6.out; simp [World.cell?, h]); have q2 : w6.frozen? ⟨P, 1, none⟩ = false := (by have h := HP6.out; simp [World.frozen?, h]))
              all_goals
                go_wp2
                go_ret
                have HFA : Hid (Fr3 P mb (.slice pa st.1.length pc) w w6) := (HFR.out.trans (Fr3.of_below (((Below.refl _ W).alloc (Nat.le_refl _) _).drew))).trans (Fr3.of_grown_row hgrow6)
                refine ⟨HFA.out.trans (Fr3.of_only ((OnlyB.refl _ _).set 1 _)), .inl ⟨_, _, HE.out, rfl, prG_put HP6.out ?_ ?_⟩⟩
                · obtain ⟨D, hD1, hD2⟩ := HPW.out.2.1
                  exact ⟨D, mapAt_kept (mapAt_on hD1 (((Below.refl _ W).alloc (Nat.le_refl _) _).drew)) hgrow6 HNB.out.2.2, hD2⟩
                · show World.ownsRow _ _ _ _ _ (st.1 ++ [(x, (n : Int) + 1)]).length (stCells (st.1 ++ [(x, (n : Int) + 1)]))
                  rw [stCells_app, List.length_append]
                  have hk := HRD.out.2.2.1
                  have hp := HRD.out.2.2.2
                  subst hk
                  subst hp
                  exact hown6
    · have HE : Hid (stepG false n l st = .inr ((n : Int) + 1, 1)) := by
        show stepG false n l st = _
        rw [HSG.out, if_pos hno]
      clear hbl hno
      unfold stV it0
      go_wp2
      go_ret
      refine ⟨Fr3.of_below ?_, .inr ⟨_, 1, HE.out, rfl, by decide⟩⟩
      exact HB3.out.alloc HB3.out.size _
  · have HE : Hid (stepG false n l st = .inr ((n : Int) + 1, 1)) := by
      show stepG false n l st = _
      unfold stepG; rw [hps]
    clear hps
    go_wp2
    go_ret
    exact ⟨Fr3.of_below HB1.out, .inr ⟨_, 1, HE.out, rfl, by decide⟩⟩
end Go.Proofs.YthgolbmngjdbeaaGreatDoor

/- Layer 6, the program's own word. -/
namespace Go.Proofs.YthgolbmngjdbeaaGreatDoor
open Go.RowKit
set_option linter.unusedVariables false
set_option linter.unusedSimpArgs false

/-- An item's word, or what is wrong. -/
def wordG (names : List (List UInt8)) (ads : List Int) (x : It) (k : Nat) : Int × Int :=
  if x.2.2.2.2.2.2.2.2 = true then (x.2.2.2.2.2.2.2.1, 0)
  else if x.2.2.2.2.2.2.1 ≠ [] ∧ findN names x.2.2.2.2.2.2.1 < 0 then (0, 1)
  else if okI x.1 x.2.1 x.2.2.1 x.2.2.2.1 (immI x names ads k) x.2.2.2.2.2.1 = true then (encOf x.1.toNat x.2.1 x.2.2.1 x.2.2.2.1 (immI x names ads k) x.2.2.2.2.2.1, 0)
  else (0, 9)
theorem enc6_any (op rd rs1 rs2 imm csr : Int) (w : World) (i0 : 0 ≤ imm) (i1 : imm < 4294967296) (tf : FormTab w) (tm : EncTab w) :
    Calls Tryz.prog 53 #[.agg #[.int .i64 op, .int .i64 rd, .int .i64 rs1, .int .i64 rs2, .int .u32 imm, .int .i64 csr]] w fun e w' => e = .returned (.tuple #[.int .u32 (if okI op rd rs1 rs2 imm csr = true then encOf op.toNat rd rs1 rs2 imm csr else 0), .int .i64 (if okI op rd rs1 rs2 imm csr = true then 0 else 9)]) ∧ Below w.heap.size w w' := by
  cases h : okI op rd rs1 rs2 imm csr
  · exact enc_f op rd rs1 rs2 imm csr w i0 i1 h tf tm
  · exact enc_t op rd rs1 rs2 imm csr w i0 i1 h tf tm
theorem wordG_enc {names : List (List UInt8)} {ads : List Int} {x : It} {k : Nat} (h1 : x.2.2.2.2.2.2.2.2 = false) (h2 : ¬ (x.2.2.2.2.2.2.1 ≠ [] ∧ findN names x.2.2.2.2.2.2.1 < 0)) :
    wordG names ads x k = (if okI x.1 x.2.1 x.2.2.1 x.2.2.2.1 (immI x names ads k) x.2.2.2.2.2.1 = true then encOf x.1.toNat x.2.1 x.2.2.1 x.2.2.2.1 (immI x names ads k) x.2.2.2.2.2.1 else 0, if okI x.1 x.2.1 x.2.2.1 x.2.2.2.1 (immI x names ads k) x.2.2.2.2.2.1 = true then 0 else 9) := by
  unfold wordG
  rw [if_neg (by rw [h1]; decide), if_neg h2]
  split <;> rfl

set_option maxRecDepth 100000 in
set_option maxHeartbeats 4000000 in
theorem word_any (x : It) (ln : Int) (k : Nat) (its : List (It × Int)) (names : List (List UInt8)) (ads : List Int) (B P mb : Nat) (v : Value) (w : World) (hP : PrG w B P mb v (its, names, ads)) (hb : ImmB x) (hlb : x.2.2.2.2.2.2.1.length ≤ 70000) (hads : ∀ a ∈ ads, 0 ≤ a ∧ a ≤ 100000) (hk : k ≤ 5000) (hF : FormTab w) (hE : EncTab w) :
    Calls Tryz.prog 24 #[.pointer (some ⟨P, 0, none⟩), .agg #[.int .i64 (kdI x), .int .i64 ln, .int .u32 (plI x), .int .i64 x.1, .int .i64 x.2.1, .int .i64 x.2.2.1, .int .i64 x.2.2.2.1, .int .u32 x.2.2.2.2.1, .int .i64 x.2.2.2.2.2.1, .string (bs x.2.2.2.2.2.2.1)], .int .u32 (4 * (k : Int))] w fun e w' => e = .returned (.tuple #[.int .u32 (wordG names ads x k).1, .int .i64 (wordG names ads x k).2]) ∧ Below w.heap.size w w' := by
  have HP := Lib.hid hP
  have HF := Lib.hid hF
  have HEE := Lib.hid hE
  have HIB := Lib.hid hb
  have HPL : Hid (P < w.heap.size) := (Array.getElem?_eq_some_iff.1 hP.1).1
  have hB : ∀ o, Below w.heap.size w (w.alloc o) := fun o => (Below.refl _ _).alloc (Nat.le_refl _) _
  have HB := Lib.hid hB
  clear hP hF hE hb hB
  cases hr : x.2.2.2.2.2.2.2.2
  · have hkd : kdI x = 2 := by unfold kdI; rw [hr]; rfl
    have hpl : plI x = 0 := by unfold plI; rw [hr]; rfl
    rw [hkd, hpl]
    clear hkd hpl
    by_cases hl : x.2.2.2.2.2.2.1 = []
    · have hbl : bs x.2.2.2.2.2.2.1 = ⟨#[]⟩ := by rw [hl]; rfl
      have HWG := Lib.hid (wordG_enc (names := names) (ads := ads) (k := k) hr (fun g => g.1 hl))
      have HII : Hid (immI x names ads k = x.2.2.2.2.1) := if_pos hl
      rw [HII.out] at HWG
      have HEN : Hid (∀ V, Below w.heap.size w V → Calls Tryz.prog 53 #[.agg #[.int .i64 x.1, .int .i64 x.2.1, .int .i64 x.2.2.1, .int .i64 x.2.2.2.1, .int .u32 x.2.2.2.2.1, .int .i64 x.2.2.2.2.2.1]] V fun e w' => e = .returned (.tuple #[.int .u32 (wordG names ads x k).1, .int .i64 (wordG names ads x k).2]) ∧ Below V.heap.size V w') := fun V hV => by
        rw [HWG.out]
        exact enc6_any _ _ _ _ _ _ V HIB.out.1 HIB.out.2 (HF.out.below hV) (HEE.out.below hV)
      clear hl hlb HWG HII
      rw [hbl]
      generalize wordG names ads x k = G at *
      go_enter Tryz.func24, Tryz.ntmps24
      go_wp2_with (first | (go_at_call 53; refine (HEN.out _ (HB.out _)).mono ?_; rintro e w2 ⟨rfl, hb2⟩))
      go_ret2
      exact ⟨rfl, (HB.out _).trans (hb2.mono (by simp))⟩
    · have hn1 := bs_ne hl
      have hn2 := bs_ne' hl
      have HLK : Hid (∀ V, Below w.heap.size w V → (Instr.lookup 33 (.map (some mb)) (.string (bs x.2.2.2.2.2.2.1)) true).run Tryz.prog V = .ok (.tuple #[.int .u32 (if 0 ≤ findN names x.2.2.2.2.2.2.1 then ads.getD (findN names x.2.2.2.2.2.2.1).toNat 0 else 0), .bool (decide (0 ≤ findN names x.2.2.2.2.2.2.1))]) V) := fun V hV => by
        obtain ⟨D, hD1, hD2⟩ := HP.out.2.1
        exact look_any (mapAt_on hD1 hV) hD2 _ hlb
      by_cases hf : 0 ≤ findN names x.2.2.2.2.2.2.1
      · have HWG := Lib.hid (wordG_enc (names := names) (ads := ads) (k := k) hr (fun g => by have := g.2; omega))
        have HII : Hid (immI x names ads k = (ads.getD (findN names x.2.2.2.2.2.2.1).toNat 0 - 4 * (k : Int)) % 4294967296) := if_neg hl
        have hab := at_bd hads (findN names x.2.2.2.2.2.2.1).toNat
        rw [if_pos hf, decide_eq_true hf] at HLK
        generalize ads.getD (findN names x.2.2.2.2.2.2.1).toNat 0 = A at *
        rw [HII.out] at HWG
        have HEN : Hid (∀ V, Below w.heap.size w V → Calls Tryz.prog 53 #[.agg #[.int .i64 x.1, .int .i64 x.2.1, .int .i64 x.2.2.1, .int .i64 x.2.2.2.1, .int .u32 ((A - 4 * (k : Int)) % 4294967296), .int .i64 x.2.2.2.2.2.1]] V fun e w' => e = .returned (.tuple #[.int .u32 (wordG names ads x k).1, .int .i64 (wordG names ads x k).2]) ∧ Below V.heap.size V w') := fun V hV => by
          rw [HWG.out]
          exact enc6_any _ _ _ _ _ _ V (by omega) (by omega) (HF.out.below hV) (HEE.out.below hV)
        have hwr : IntKind.u32.wrap (A - 4 * (k : Int)) = (A - 4 * (k : Int)) % 4294967296 := by rw [IntKind.wrap_u32]
        clear hl hf hlb HWG HII
        generalize wordG names ads x k = G at *
        go_enter Tryz.func24, Tryz.ntmps24
        go_wp2_with fail
        obtain ⟨W, hW⟩ : ∃ W, w.alloc (.cells #[.int .i64 2, .int .i64 ln, .int .u32 0, .int .i64 x.1, .int .i64 x.2.1, .int .i64 x.2.2.1, .int .i64 x.2.2.2.1, .int .u32 x.2.2.2.2.1, .int .i64 x.2.2.2.2.2.1, .string (bs x.2.2.2.2.2.2.1)] 55) = W := ⟨_, rfl⟩
        have HBW : Hid (Below w.heap.size w W) := by show Below _ _ _; rw [← hW]; exact HB.out _
        have HT : Hid (StB W w.heap.size 2 ln 0 x) := by show StB _ _ _ _ _ _; rw [← hW]; exact heap_alloc_new w _
        rw [hW]
        clear hW
        have c0 := (HP.out.on HBW.out).cells.1
        obtain ⟨t0, t1, t2, t3, t4, t5, t6, t7, t8, t9⟩ := HT.out.cells
        have tf := HT.out.free
        have hlk := HLK.out W.drew (HBW.out.drew)
        have hn3 : P ≠ w.heap.size := by have := HPL.out; omega
        go_region_held3 (fun w' => w'.cell? ⟨P, 0, none⟩ = some (.map (some mb)) ∧ w'.cell? ⟨w.heap.size, 9, none⟩ = some (.string (bs x.2.2.2.2.2.2.1))) (first | (refine ⟨?_, ?_⟩ <;> assumption) | go_keep) (first | fail)
        have HO7 : Hid (OnlyB w.heap.size W (W.drew.setCell ⟨w.heap.size, 7, none⟩ (.int .u32 ((A - 4 * (k : Int)) % 4294967296)))) := ((OnlyB.refl _ W).drew).set 7 _
        have HB7 : Hid (Below w.heap.size w (W.drew.setCell ⟨w.heap.size, 7, none⟩ (.int .u32 ((A - 4 * (k : Int)) % 4294967296)))) := below_only HBW.out HO7.out (Nat.le_refl _)
        go_wp2_with fail
        refine (HEN.out _ (by first | exact HB7.out | exact HB7.out.drew)).mono ?_
        rintro e w2 ⟨rfl, hb2⟩
        have HB2 : Hid (Below w.heap.size w w2) := HB7.out.trans (hb2.mono HB7.out.size)
        go_wp2
        go_ret2
        exact ⟨rfl, HB2.out⟩
      · have HWG : Hid (wordG names ads x k = (0, 1)) := by
          show wordG names ads x k = _
          unfold wordG
          rw [if_neg (by rw [hr]; decide), if_pos ⟨hl, by omega⟩]
        rw [if_neg hf, decide_eq_false hf] at HLK
        clear hl hf hlb
        go_enter Tryz.func24, Tryz.ntmps24
        go_wp2_with fail
        obtain ⟨W, hW⟩ : ∃ W, w.alloc (.cells #[.int .i64 2, .int .i64 ln, .int .u32 0, .int .i64 x.1, .int .i64 x.2.1, .int .i64 x.2.2.1, .int .i64 x.2.2.2.1, .int .u32 x.2.2.2.2.1, .int .i64 x.2.2.2.2.2.1, .string (bs x.2.2.2.2.2.2.1)] 55) = W := ⟨_, rfl⟩
        have HBW : Hid (Below w.heap.size w W) := by show Below _ _ _; rw [← hW]; exact HB.out _
        have HT : Hid (StB W w.heap.size 2 ln 0 x) := by show StB _ _ _ _ _ _; rw [← hW]; exact heap_alloc_new w _
        rw [hW]
        clear hW
        have c0 := (HP.out.on HBW.out).cells.1
        obtain ⟨t0, t1, t2, t3, t4, t5, t6, t7, t8, t9⟩ := HT.out.cells
        have tf := HT.out.free
        have hlk := HLK.out W.drew (HBW.out.drew)
        have hn3 : P ≠ w.heap.size := by have := HPL.out; omega
        go_region_held3 (fun w' => w'.cell? ⟨P, 0, none⟩ = some (.map (some mb)) ∧ w'.cell? ⟨w.heap.size, 9, none⟩ = some (.string (bs x.2.2.2.2.2.2.1))) (first | (refine ⟨?_, ?_⟩ <;> assumption) | go_keep) (first | fail)
        go_wp2
        go_ret2
        rw [HWG.out]
        exact ⟨rfl, HBW.out.drew⟩
  · have hkd : kdI x = 1 := by unfold kdI; rw [hr]; rfl
    have hpl : plI x = x.2.2.2.2.2.2.2.1 := by unfold plI; rw [hr]; rfl
    rw [hkd, hpl]
    have HWG : Hid (wordG names ads x k = (x.2.2.2.2.2.2.2.1, 0)) := if_pos hr
    clear hr hkd hpl
    go_enter Tryz.func24, Tryz.ntmps24
    go_wp2
    go_ret2
    rw [HWG.out]
    exact ⟨rfl, HB.out _⟩
end Go.Proofs.YthgolbmngjdbeaaGreatDoor

/- Layer 6, the program's own words. -/
namespace Go.Proofs.YthgolbmngjdbeaaGreatDoor
open Go.RowKit
set_option linter.unusedVariables false
set_option linter.unusedSimpArgs false

theorem laidG_step (names : List (List UInt8)) (ads : List Int) (x : It) (ln : Int) (r : List (It × Int)) (k : Nat) (out : List Int) :
    laidL names ads ((x, ln) :: r) k out = if (wordG names ads x k).2 = 0 then laidL names ads r (k + 1) (out ++ [(wordG names ads x k).1]) else ([], ln, (wordG names ads x k).2) := by
  rw [laidL]
  unfold wordG
  split
  · rfl
  · split
    · rfl
    · split
      · rfl
      · rfl
theorem wordG_bd (names : List (List UInt8)) (ads : List Int) (x : It) (k : Nat) : (wordG names ads x k).2 = 0 ∨ (wordG names ads x k).2 = 1 ∨ (wordG names ads x k).2 = 9 := by
  unfold wordG
  split
  · exact .inl rfl
  · split
    · exact .inr (.inl rfl)
    · split
      · exact .inl rfl
      · exact .inr (.inr rfl)

set_option maxRecDepth 100000 in
set_option maxHeartbeats 8000000 in
theorem words_any (its : List (It × Int)) (names : List (List UInt8)) (ads : List Int) (B P mb : Nat) (v : Value) (w : World) (hP : PrG w B P mb v (its, names, ads)) (hn : its.length ≤ 4096) (hit : ∀ p ∈ its, ImmB p.1 ∧ p.1.2.2.2.2.2.2.1.length ≤ 70000) (hads : ∀ a ∈ ads, 0 ≤ a ∧ a ≤ 100000) (hF : FormTab w) (hE : EncTab w) :
    Calls Tryz.prog 10 #[.pointer (some ⟨P, 0, none⟩)] w fun e w' => LaidAs (laidL names ads its 0 []) w.heap.size e w' ∧ Below w.heap.size w w' := by
  obtain ⟨i0, hi, hz0, hz1, hz2⟩ := info_parts (P := Tryz.prog) (e := 27) (z := .int .u32 0) (size := 1) (bytes := 4) (by kernel_rfl)
  have HP := Lib.hid hP
  have HF := Lib.hid hF
  have HEE := Lib.hid hE
  have HIT := Lib.hid hit
  have HADS := Lib.hid hads
  obtain ⟨pa, pc, hv⟩ := gown_slice hP.2.2
  dsimp only at hv
  subst hv
  obtain ⟨c0, c1⟩ := hP.cells
  have HPL : Hid (P < w.heap.size) := (Array.getElem?_eq_some_iff.1 hP.1).1
  clear hP hF hE hit hads
  go_enter Tryz.func10, Tryz.ntmps10
  go_wp2_with (at_make; refine wpList_make_own _ rfl _ _ 23 rfl w.heap.size 27 i0 _ 1 Tryz.underlying23 hi hz0 hz1 .i64 .i64 _ its.length rfl rfl rfl (by rw [hz2]; omega) (by unfold maxLen; omega) (Nat.le_refl _) ?_)
  intro w1 hown hg
  have HB1 : Hid (Below w.heap.size w w1) := (Below.refl _ _).grown hg (Nat.le_refl _) (fun _ h => by cases h)
  have HO1 : Hid (w1.ownsRow w.heap.size 27 1 _ 0 []) := hown
  clear hg hown
  have c1' : w1.cell? ⟨P, 1, none⟩ = some (.slice pa its.length pc) := scell_on HB1.out c1
  go_wp2_with fail
  go_loopw [5, 21] (fun o i wr => ∃ (k : Nat) (out : List Int), k ≤ its.length ∧ i = .int .i64 k ∧ out.length = k ∧ wr.ownsRow w.heap.size 27 1 o out.length (out.map uV) ∧ Below w.heap.size w wr ∧ Hid (laidL names ads its 0 [] = laidL names ads (its.drop k) k out)) (fun _ i _ => its.length - (intOf i).toNat)
  case atStart => exact ⟨0, [], Nat.zero_le _, rfl, rfl, HO1.out, HB1.out, rfl⟩
  case round =>
    obtain ⟨k, out, hk, rfl, hol, hown, hb, HLX⟩ := hrel
    have HO := Lib.hid hown
    have HB := Lib.hid hb
    clear hown hb c1' c0 c1
    by_cases hlt : k < its.length
    · have HPr := Lib.hid (HP.out.on HB.out)
      obtain ⟨g, cg, hvv⟩ := owned_some HPr.out.2.2 (by show 0 < its.length; omega)
      simp only [Value.slice.injEq] at hvv
      obtain ⟨rfl, _, rfl⟩ := hvv
      have hglt : g < wr.heap.size := by
        rcases HPr.out.2.2.2 with ⟨e, _⟩ | ⟨g', cap, cur, e, _, hg', _⟩
        · simp at e
        · simp only [Value.slice.injEq, Option.some.injEq, Addr.mk.injEq] at e
          obtain ⟨⟨rfl, _⟩, _⟩ := e
          exact (Array.getElem?_eq_some_iff.1 hg').1
      have HCL : Hid (∀ j, j < 10 → wr.cell? ⟨g, k * 10 + j, none⟩ = (stTen (its.getD k (it0, 0)).1 (its.getD k (it0, 0)).2)[j]?) := fun j hj => by
        rw [HPr.out.2.2.cellAt (k * 10 + j) (by show _ < its.length * 10; omega)]
        exact stCells_at its k j hlt hj
      have HIX : Hid (ImmB (its.getD k (it0, 0)).1 ∧ (its.getD k (it0, 0)).1.2.2.2.2.2.2.1.length ≤ 70000) := HIT.out _ (by rw [List.getD_eq_getElem?_getD, List.getElem?_eq_getElem hlt]; exact List.getElem_mem hlt)
      have HLS : Hid (laidL names ads (its.drop k) k out = if (wordG names ads (its.getD k (it0, 0)).1 k).2 = 0 then laidL names ads (its.drop (k + 1)) (k + 1) (out ++ [(wordG names ads (its.getD k (it0, 0)).1 k).1]) else ([], (its.getD k (it0, 0)).2, (wordG names ads (its.getD k (it0, 0)).1 k).2)) := by
        show laidL _ _ _ _ _ = _
        rw [laid_step names ads its k out hlt]
        exact laidG_step names ads _ _ _ k out
      generalize (its.getD k (it0, 0)).1 = x at *
      generalize (its.getD k (it0, 0)).2 = ln at *
      have s0 := HCL.out 0 (by decide)
      have s1 := HCL.out 1 (by decide)
      have s2 := HCL.out 2 (by decide)
      have s3 := HCL.out 3 (by decide)
      have s4 := HCL.out 4 (by decide)
      have s5 := HCL.out 5 (by decide)
      have s6 := HCL.out 6 (by decide)
      have s7 := HCL.out 7 (by decide)
      have s8 := HCL.out 8 (by decide)
      have s9 := HCL.out 9 (by decide)
      simp only [stTen, List.getElem?_toArray, List.getElem?_cons_zero, List.getElem?_cons_succ, Nat.add_zero] at s0 s1 s2 s3 s4 s5 s6 s7 s8 s9
      have HLT := Lib.hid hlt
      have hlt' : (k : Int) < (its.length : Int) := by omega
      have hk0 : (0 : Int) ≤ (k : Int) := by omega
      have hgn : g ≠ wr.heap.size := by omega
      clear hlt
      go_wp2_with fail
      obtain ⟨Wa, hWa⟩ : ∃ W, wr.alloc (.cells #[.int .i64 (kdI x), .int .i64 ln, .int .u32 (plI x), .int .i64 x.1, .int .i64 x.2.1, .int .i64 x.2.2.1, .int .i64 x.2.2.2.1, .int .u32 x.2.2.2.2.1, .int .i64 x.2.2.2.2.2.1, .string (bs x.2.2.2.2.2.2.1)] 55) = W := ⟨_, rfl⟩
      have HBa : Hid (Below wr.heap.size wr Wa) := by show Below _ _ _; rw [← hWa]; exact (Below.refl _ _).alloc (Nat.le_refl _) _
      have HTa : Hid (StB Wa wr.heap.size (kdI x) ln (plI x) x) := by show StB _ _ _ _ _ _; rw [← hWa]; exact heap_alloc_new wr _
      rw [hWa]
      clear hWa s0 s1 s2 s3 s4 s5 s6 s7 s8 s9
      have HBb : Hid (Below w.heap.size w Wa) := HB.out.trans (HBa.out.mono HB.out.size)
      obtain ⟨t0, t1, t2, t3, t4, t5, t6, t7, t8, t9⟩ := HTa.out.cells
      have HAD : Hid (∀ w, Calls Tryz.prog 23 #[.int .i64 k] w fun e w' => e = .returned (.int .u32 (4 * (k : Int))) ∧ w' = w) := fun w => addr_any _ w (by omega)
      have HWD : Hid (∀ V, Below w.heap.size w V → Calls Tryz.prog 24 #[.pointer (some ⟨P, 0, none⟩), .agg #[.int .i64 (kdI x), .int .i64 ln, .int .u32 (plI x), .int .i64 x.1, .int .i64 x.2.1, .int .i64 x.2.2.1, .int .i64 x.2.2.2.1, .int .u32 x.2.2.2.2.1, .int .i64 x.2.2.2.2.2.1, .string (bs x.2.2.2.2.2.2.1)], .int .u32 (4 * (k : Int))] V fun e w' => e = .returned (.tuple #[.int .u32 (wordG names ads x k).1, .int .i64 (wordG names ads x k).2]) ∧ Below V.heap.size V w') := fun V hV => word_any x ln k its names ads B P mb _ V (HP.out.on hV) HIX.out.1 HIX.out.2 HADS.out (by omega) (HF.out.below hV) (HEE.out.below hV)
      have HG9 : Hid ((wordG names ads x k).2 = 0 ∨ (wordG names ads x k).2 = 1 ∨ (wordG names ads x k).2 = 9) := wordG_bd _ _ _ _
      generalize wordG names ads x k = G at *
      go_region_held3 (fun w' => w'.cell? ⟨wr.heap.size, 0, none⟩ = some (.int .i64 (kdI x)) ∧ w'.cell? ⟨wr.heap.size, 1, none⟩ = some (.int .i64 ln) ∧ w'.cell? ⟨wr.heap.size, 2, none⟩ = some (.int .u32 (plI x)) ∧ w'.cell? ⟨wr.heap.size, 3, none⟩ = some (.int .i64 x.1) ∧ w'.cell? ⟨wr.heap.size, 4, none⟩ = some (.int .i64 x.2.1) ∧ w'.cell? ⟨wr.heap.size, 5, none⟩ = some (.int .i64 x.2.2.1) ∧ w'.cell? ⟨wr.heap.size, 6, none⟩ = some (.int .i64 x.2.2.2.1) ∧ w'.cell? ⟨wr.heap.size, 7, none⟩ = some (.int .u32 x.2.2.2.2.1) ∧ w'.cell? ⟨wr.heap.size, 8, none⟩ = some (.int .i64 x.2.2.2.2.2.1) ∧ w'.cell? ⟨wr.heap.size, 9, none⟩ = some (.string (bs x.2.2.2.2.2.2.1))) (first | (refine ⟨?_, ?_, ?_, ?_, ?_, ?_, ?_, ?_, ?_, ?_⟩ <;> assumption) | go_keep)
        (first
          | (go_at_call 23; refine (HAD.out _).mono ?_; rintro e w' ⟨rfl, hw⟩; have hw := hw.symm; subst hw)
          | (go_at_call 24; refine (HWD.out _ (by exact HBb.out.drew)).mono ?_; rintro e w2 ⟨rfl, hb2⟩; have HB2 : Hid (Below Wa.heap.size Wa w2) := (by exact ((Below.refl _ Wa).drew).trans hb2); have HT2 := Lib.hid (StB.on HTa.out HB2.out); obtain ⟨t0, t1, t2, t3, t4, t5, t6, t7, t8, t9⟩ := HT2.out.cells; clear hb2))
      have HBc : Hid (Below w.heap.size w w2) := HBb.out.trans (HB2.out.mono HBb.out.size)
      have HOc : Hid (w2.ownsRow w.heap.size 27 1 _ out.length (out.map uV)) := lown_on (lown_on HO.out HBa.out) HB2.out
      by_cases hg0 : G.2 = 0
      · rw [hg0]
        have HGO : Hid (laidL names ads its 0 [] = laidL names ads (its.drop (k + 1)) (k + 1) (out ++ [G.1])) := by
          show laidL _ _ _ _ _ = _
          rw [HLX.out, HLS.out, if_pos hg0]
        clear hg0
        go_wp2_with (at_builtin; refine wpList_append_own _ rfl _ _ 23 rfl w.heap.size 27 i0 _ 1 4 Tryz.underlying23 hi hz0 hz1 hz2 rfl (by decide) _ _ _ rfl (HOc.out.alloc _) ⟨w2.heap.size, 0, none⟩ 1 1 [.int .u32 G.1] rfl rfl (news1 _ _ _) ?c2 ?c3 ?c4 ?c5 ?_)
        case c2 => first | rfl | (intro u hu; simp at hu; subst hu; rfl)
        case c3 => unfold maxLen; first | omega | (simp; omega)
        case c4 => first | omega | (simp; omega)
        case c5 => have := HBc.out.size; simp; omega
        intro v3 w3 hown' hgrow _
        have HBw3 : Hid (Below w.heap.size w w3) := (HBc.out.alloc HBc.out.size _).grown hgrow (by have := HBc.out.size; simp; omega) (fun j hj => (HOc.out.lt j hj).1)
        have HOw3 : Hid (w3.ownsRow w.heap.size 27 1 v3 (out ++ [G.1]).length ((out ++ [G.1]).map uV)) := by
          rw [List.map_append, List.length_append, hol]; exact hown'
        clear hown' hgrow
        go_wp2
        go_roundw
        case rel => exact ⟨k + 1, out ++ [G.1], HLT.out, by go_num, by simp; omega, HOw3.out, HBw3.out, HGO.out⟩
        case measure => have := HLT.out; simp [intOf]; omega
      · have HGO : Hid (laidL names ads its 0 [] = ([], ln, G.2)) := by
          show laidL _ _ _ _ _ = _
          rw [HLX.out, HLS.out, if_neg hg0]
        have hg1 : (G.2 != 0) = true := by simpa using hg0
        clear hg0
        go_wp2_with fail
        go_quiet (fail)
        go_wp2
        go_ret3
        refine ⟨?_, HBc.out.trans (Q.below ⟨_, rfl⟩ _)⟩
        rw [HGO.out]
        exact ⟨_, rfl, World.ownsRow_nil _ _ _ _⟩
    · obtain rfl : k = its.length := by omega
      have HGO : Hid (laidL names ads its 0 [] = (out, 0, 0)) := by
        show laidL _ _ _ _ _ = _
        rw [HLX.out, List.drop_length]; rfl
      go_wp2
      go_ret3
      refine ⟨?_, HB.out⟩
      rw [HGO.out]
      exact ⟨_, rfl, HO.out⟩
end Go.Proofs.YthgolbmngjdbeaaGreatDoor

/- Layer 6: strings.Split at sign 10, over lists of signs; lines as the program cuts them. -/
namespace Go.Proofs.YthgolbmngjdbeaaGreatDoor
open Go.RowKit
set_option linter.unusedVariables false

/-- The lines of what is left, behind the beginning of one; the last one is there, empty or not. -/
def splA : List UInt8 → List UInt8 → List (List UInt8)
  | [], cur => [cur]
  | c :: r, cur => if c = 10 then cur :: splA r [] else splA r (cur ++ [c])
def splL (l : List UInt8) : List (List UInt8) := splA l []
theorem splA_pre : ∀ (a r cur : List UInt8), (∀ c ∈ a, c ≠ 10) → splA (a ++ r) cur = splA r (cur ++ a)
  | [], r, cur, _ => by simp
  | c :: a, r, cur, h => by
    have hc : c ≠ 10 := h c (by simp)
    rw [List.cons_append, splA, if_neg hc, splA_pre a r (cur ++ [c]) fun x hx => h x (by simp [hx])]
    simp
theorem splA_lns : ∀ (l cur : List UInt8), splA l cur = lns l cur ∨ splA l cur = lns l cur ++ [ [] ]
  | [], cur => by
    by_cases h : cur = []
    · subst h; exact .inr rfl
    · exact .inl (by simp [splA, lns, h])
  | c :: r, cur => by
    by_cases h : c = 10
    · rcases splA_lns r [] with e | e
      · exact .inl (by simp [splA, lns, h, e])
      · exact .inr (by simp [splA, lns, h, e])
    · rcases splA_lns r (cur ++ [c]) with e | e
      · exact .inl (by simp [splA, lns, h, e])
      · exact .inr (by simp [splA, lns, h, e])
theorem idx_parts : ∀ l : List UInt8, (Lib.indexByte l 10 = -1 ∧ ∀ c ∈ l, c ≠ 10) ∨ ∃ a b, l = a ++ 10 :: b ∧ (∀ c ∈ a, c ≠ 10) ∧ Lib.indexByte l 10 = (a.length : Int)
  | [] => .inl ⟨rfl, fun _ h => by cases h⟩
  | c :: r => by
    by_cases h : c = 10
    · subst h
      exact .inr ⟨[], r, rfl, (fun _ h => by cases h), rfl⟩
    · have hb : (c == 10) = false := by simpa using h
      rcases idx_parts r with ⟨e, g⟩ | ⟨a, b, rfl, g, e⟩
      · refine .inl ⟨by simp [Lib.indexByte, hb, e], fun x hx => ?_⟩
        rcases List.mem_cons.1 hx with rfl | hx
        · exact h
        · exact g x hx
      · refine .inr ⟨c :: a, b, rfl, fun x hx => ?_, ?_⟩
        · rcases List.mem_cons.1 hx with rfl | hx
          · exact h
          · exact g x hx
        · have hne : ((a.length : Int) == -1) = false := by rw [beq_eq_false_iff_ne]; omega
          simp only [Lib.indexByte, hb, e, hne]
          simp
theorem splitK_spl : ∀ (k : Nat) (l : List UInt8), l.count 10 ≤ k → Lib.splitK [10] 0 k l = splL l
  | 0, l, h => by
    have h0 : ∀ c ∈ l, c ≠ 10 := fun c hc e => by
      subst e
      have := List.count_pos_iff.2 hc
      omega
    have := splA_pre l [] [] h0
    rw [List.append_nil] at this
    unfold splL
    rw [this]
    simp [Lib.splitK, splA]
  | k + 1, l, h => by
    rcases idx_parts l with ⟨e, g⟩ | ⟨a, b, rfl, g, e⟩
    · have := splA_pre l [] [] g
      rw [List.append_nil] at this
      unfold splL
      rw [this]
      simp [Lib.splitK, Lib.index_one, e, splA]
    · have hne : ((a.length : Int) == -1) = false := by rw [beq_eq_false_iff_ne]; omega
      have ih := splitK_spl k b (by simp [List.count_append] at h; omega)
      unfold splL
      rw [splA_pre a (10 :: b) [] g]
      simp only [Lib.splitK, Lib.index_one, e, hne]
      simp only [splA, List.nil_append, if_true]
      have e1 : (a ++ 10 :: b).take ((a.length : Int).toNat + 0) = a := by simp
      have e2 : (a ++ 10 :: b).drop ((a.length : Int).toNat + ([10] : List UInt8).length) = b := by
        simp only [Int.toNat_natCast, List.length_singleton]
        rw [List.drop_append]
        simp
      rw [e1, e2, ih]
      rfl
theorem splA_len : ∀ (l cur : List UInt8), (splA l cur).length = l.count 10 + 1
  | [], cur => rfl
  | c :: r, cur => by
    rw [splA]
    by_cases h : c = 10
    · subst h; simp [splA_len r []]
    · rw [if_neg h, splA_len r, List.count_cons_of_ne h]
theorem splA_bd : ∀ (r cur : List UInt8) (N : Nat), cur.length + r.length ≤ N → ∀ q ∈ splA r cur, q.length ≤ N
  | [], cur, N, h => by
    intro q hq
    simp [splA] at hq
    subst hq; simpa using h
  | c :: r, cur, N, h => by
    simp only [List.length_cons] at h
    rw [splA]
    split
    · intro q hq
      rcases List.mem_cons.1 hq with rfl | hq
      · omega
      · exact splA_bd r [] N (by simp; omega) q hq
    · exact splA_bd r (cur ++ [c]) N (by simp; omega)
theorem spl_cells (l : List UInt8) (k : Nat) (h : l.count 10 ≤ k) : (Lib.splitB ⟨#[10]⟩ 0 k (bs l)).map Value.string = (splL l).map sV := by
  have e := Lib.splitB_data ⟨#[10]⟩ 0 k (bs l)
  have e2 : (bs l).data.toList = l := by simp [bs]
  rw [e2] at e
  have e3 := splitK_spl k l h
  have e4 : (Lib.splitB ⟨#[10]⟩ 0 k (bs l)).map (·.data.toList) = splL l := e.trans e3
  rw [← e4, List.map_map]
  refine List.map_congr_left fun x _ => ?_
  simp [sV, bs]

theorem gensplit_any (l : List UInt8) (w : World) (hl : l.length ≤ 70000) :
    Calls Tryz.prog 20 #[.string (bs l), .string ⟨#[10]⟩, .int .i64 0, .int .i64 (-1)] w fun e w' => e = .returned (.slice (some ⟨w.heap.size, 0, none⟩) (splL l).length (splL l).length) ∧ w' = w.alloc (.cells ((splL l).map sV).toArray 9) := by
  have hsz : (bs l).size = l.length := bs_size l
  have e2 : (bs l).data.toList = l := by simp [bs]
  have hcb : Lib.countB (bs l) ⟨#[10]⟩ = l.count 10 := by
    show Lib.count (bs l).data.toList [10] = _
    rw [e2, Lib.count_one]
  have hle : l.count 10 ≤ l.length := List.count_le_length
  have hi9 : (Tryz.prog.info? (lays221_ren.t 9)).map (fun i => (i.zero, i.size, i.bytes)) = some (some (.string ByteArray.empty), 1, 16) := by kernel_rfl
  have c := Any.strings_genSplit_core lays221 hi9 (bs l) ⟨#[10]⟩ 0 (-1) (l.count 10 + 1) w (by omega) (by decide) (by decide)
    (fun x cc hx => (Any.strings_Index_one { lays221 with } x 10 (w.alloc (.cells cc (lays221_ren.t 9)))).mono fun e w' ⟨he, hw⟩ => ⟨by rw [he]; show _ = Ending.returned (.int .i64 (Lib.index x.data.toList [10])); rw [Lib.index_one], hw⟩)
    ((Any.strings_Count_one { lays221 with } (bs l) 10 w).mono fun e w' ⟨he, hw⟩ => ⟨by rw [he, hcb, e2]; rfl, hw⟩)
    (by decide) (by decide) (by rw [if_pos (by decide), hcb]; omega)
  rw [Nat.add_sub_cancel] at c
  have hcells := spl_cells l (l.count 10) (Nat.le_refl _)
  have hlen : (Lib.splitB ⟨#[10]⟩ 0 (l.count 10) (bs l)).length = (splL l).length := by
    have := congrArg List.length hcells
    simpa using this
  have hlen2 : (splL l).length = l.count 10 + 1 := splA_len l []
  have hce : Lib.cellsOf (Lib.splitB ⟨#[10]⟩ 0 (l.count 10) (bs l)) (l.count 10 + 1) = ((splL l).map sV).toArray := by
    rw [← hlen2, ← hlen, Lib.cellsOf_full, hcells]
  rw [hce, hlen, ← hlen2] at c
  exact c

set_option maxHeartbeats 400000 in
theorem split_any (l : List UInt8) (w : World) (hl : l.length ≤ 70000) :
    Calls Tryz.prog 8 #[.string (bs l), .string ⟨#[10]⟩] w fun e w' => e = .returned (.slice (some ⟨w.heap.size, 0, none⟩) (splL l).length (splL l).length) ∧ w' = w.alloc (.cells ((splL l).map sV).toArray 9) := by
  have HG := Lib.hid (gensplit_any l w hl)
  go_enter Tryz.func8, Tryz.ntmps8
  go_wp2_with (go_at_call 20; refine HG.out.mono ?_; rintro e w' ⟨rfl, hw⟩; rw [hw])
  go_ret
  exact ⟨rfl, rfl⟩
end Go.Proofs.YthgolbmngjdbeaaGreatDoor
