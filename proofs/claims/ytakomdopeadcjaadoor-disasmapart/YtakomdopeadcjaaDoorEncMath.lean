/- Layer 4: a word out of an instruction's fields, as arithmetic: no program in sight but layer 2's tables. -/
import Derived.Test.YtakomdopeadcjaaDoorDecodeSpec
namespace Go.Proofs.YtakomdopeadcjaaDoor
open Go.RowKit
set_option linter.unusedVariables false

/-- A number shifted up and down: its lowest bits at their place. -/
theorem sh_val (n a b m p : Int) (h0 : 0 ≤ b) (h1 : b ≤ a) (h2 : a ≤ 31) (hm : pw (a - b + 1) = m) (hp : pw b = p) : n * 2 ^ (31 - a + b).toNat % 4294967296 / 2 ^ (31 - a).toNat = n % m * p := by
  subst hm hp
  have e : (4294967296 : Int) = pw (31 - a + b) * pw (a - b + 1) := by
    rw [← pw_add _ _ (by omega) (by omega), show 31 - a + b + (a - b + 1) = 32 from by omega, pw_32]
  have f : (2 : Int) ^ (31 - a + b).toNat = pw (31 - a + b) := rfl
  have g : (2 : Int) ^ (31 - a).toNat = pw (31 - a) := rfl
  rw [f, g, e, Int.mul_comm n, Int.mul_emod_mul_of_pos _ _ (pw_pos _), pw_add _ _ (by omega) h0, Int.mul_assoc, Int.mul_ediv_cancel_left _ (by have := pw_pos (31 - a); omega), Int.mul_comm]

theorem nat_or_free (A N X y : Nat) (hy : y < 2 ^ N) (hX : X / 2 ^ A % 2 ^ N = 0) : X ||| (y * 2 ^ A) = X + y * 2 ^ A := by
  have hP : 0 < 2 ^ A := Nat.pow_pos (by omega)
  have hQ : 0 < 2 ^ N := Nat.pow_pos (by omega)
  have x1 : X = 2 ^ A * (X / 2 ^ A) + X % 2 ^ A := (Nat.div_add_mod X (2 ^ A)).symm
  have x2 : X / 2 ^ A = 2 ^ N * (X / 2 ^ A / 2 ^ N) + X / 2 ^ A % 2 ^ N := (Nat.div_add_mod (X / 2 ^ A) (2 ^ N)).symm
  have d1 : X % 2 ^ A < 2 ^ A := Nat.mod_lt _ hP
  rw [hX] at x2
  generalize X % 2 ^ A = d at *
  generalize X / 2 ^ A / 2 ^ N = c at *
  have xx : X = 2 ^ A * (2 ^ N * c + 0) + d := by rw [← x2]; exact x1
  have f2 : y * 2 ^ A = 2 ^ A * (2 ^ N * 0 + y) + 0 := by rw [Nat.mul_comm]; simp
  rw [f2, xx, joint_or A _ _ _ _ d1 hP, joint_or N _ _ _ _ hQ hy]
  simp only [Nat.or_zero, Nat.zero_or, Nat.mul_zero, Nat.zero_add, Nat.add_zero, Nat.mul_add]
  omega

/-- A field put where there is nothing yet (or nothing put): as a sum. -/
theorem or_free (x n a b m p : Int) (hx0 : 0 ≤ x) (hx1 : x < 4294967296) (n0 : 0 ≤ n) (h0 : 0 ≤ b) (h1 : b ≤ a) (h2 : a ≤ 31) (hm : pw (a - b + 1) = m) (hp : pw b = p) (hz : n % m = 0 ∨ x / p % m = 0) :
    bits .or .u32 x (n % m * p) = x + n % m * p ∧ 0 ≤ x + n % m * p ∧ x + n % m * p < 4294967296 := by
  subst hm hp
  obtain ⟨X, rfl⟩ := Int.eq_ofNat_of_zero_le hx0
  obtain ⟨Y, rfl⟩ := Int.eq_ofNat_of_zero_le n0
  obtain ⟨A, rfl⟩ := Int.eq_ofNat_of_zero_le h0
  obtain ⟨N, hN⟩ := Int.eq_ofNat_of_zero_le (show 0 ≤ a - A + 1 by omega)
  rw [hN] at hz ⊢
  have hQ : 0 < 2 ^ N := Nat.pow_pos (by omega)
  have hP : 0 < 2 ^ A := Nat.pow_pos (by omega)
  have PQ : 2 ^ N * 2 ^ A ≤ 4294967296 := by
    rw [← Nat.pow_add]; exact Nat.pow_le_pow_right (i := N + A) (j := 32) (n := 2) (by omega) (by omega)
  have m2 : Y % 2 ^ N * 2 ^ A < 4294967296 := by
    have : Y % 2 ^ N < 2 ^ N := Nat.mod_lt _ hQ
    exact Nat.lt_of_lt_of_le (Nat.mul_lt_mul_of_pos_right this hP) PQ
  have k2 : (Y : Int) % pw N * pw A = ((Y % 2 ^ N * 2 ^ A : Nat) : Int) := by
    rw [pw_nat, pw_nat]; simp
  rw [k2]
  have l := Nat.or_lt_two_pow (n := 32) (x := X) (y := Y % 2 ^ N * 2 ^ A) (by omega) m2
  rw [u32_or_nat _ _ (by omega) m2]
  have e : X ||| (Y % 2 ^ N * 2 ^ A) = X + Y % 2 ^ N * 2 ^ A := by
    rcases hz with hz | hz
    · have : Y % 2 ^ N = 0 := by
        rw [pw_nat] at hz; simp only [Int.toNat_natCast] at hz; omega
      rw [this]; simp
    · refine nat_or_free A N X _ (Nat.mod_lt _ hQ) ?_
      rw [pw_nat, pw_nat] at hz; simp only [Int.toNat_natCast] at hz
      have : (((X / 2 ^ A % 2 ^ N : Nat)) : Int) = 0 := by rw [Int.natCast_emod, Int.natCast_ediv]; exact hz
      omega
  rw [e] at l ⊢
  refine ⟨rfl, ?_, ?_⟩ <;> omega

/-- The number of a form at its places. -/
def immPut (f n : Int) : Int :=
  if f = 1 then n / 4096 % 1048576 * 4096
  else if f = 2 then n / 1048576 % 2 * 2147483648 + n / 2 % 1024 * 2097152 + n / 2048 % 2 * 1048576 + n / 4096 % 256 * 4096
  else if f = 3 then n % 4096 * 1048576
  else if f = 4 then n / 4096 % 2 * 2147483648 + n / 32 % 64 * 33554432 + n / 2 % 16 * 256 + n / 2048 % 2 * 128
  else if f = 5 then n / 32 % 128 * 33554432 + n % 32 * 128
  else if f = 7 then n % 32 * 1048576
  else if f = 9 then n % 32 * 32768 else 0
/-- Where a form's number goes there is nothing yet. -/
def Free (f x : Int) : Prop := (f = 1 ∨ f = 2 → x / 4096 % 1048576 = 0) ∧ (f = 3 → x / 1048576 % 4096 = 0) ∧ (f = 4 ∨ f = 5 → x / 33554432 % 128 = 0 ∧ x / 128 % 32 = 0) ∧ (f = 7 → x / 1048576 % 32 = 0) ∧ (f = 9 → x / 32768 % 32 = 0)
/-- What an instruction's word has beside its number. -/
def headOf (k : Nat) (rd rs1 rs2 csr : Int) : Int := matchL.getD (k - 1) 0 + rd * 128 + rs1 * 32768 + rs2 * 1048576 + csr * 1048576
/-- An instruction's word. -/
def encOf (k : Nat) (rd rs1 rs2 imm csr : Int) : Int := headOf k rd rs1 rs2 csr + immPut (formZ k) imm

theorem match_bd : ∀ k, k < 58 → k ≠ 0 → 0 ≤ matchL.getD (k - 1) 0 ∧ matchL.getD (k - 1) 0 < 4294967296 := by decide +kernel
theorem match_p1 : ∀ k, k < 58 → k ≠ 0 → (formZ k = 1 ∨ formZ k = 2) → matchL.getD (k - 1) 0 < 128 := by decide +kernel
theorem match_p2 : ∀ k, k < 58 → k ≠ 0 → (formZ k = 3 ∨ formZ k = 4 ∨ formZ k = 5 ∨ formZ k = 8 ∨ formZ k = 9) → matchL.getD (k - 1) 0 < 32768 ∧ matchL.getD (k - 1) 0 / 128 % 32 = 0 := by decide +kernel
theorem match_p3 : ∀ k, k < 58 → k ≠ 0 → (formZ k = 6 ∨ formZ k = 7) → matchL.getD (k - 1) 0 / 128 % 32 = 0 ∧ matchL.getD (k - 1) 0 / 32768 % 1024 = 0 := by decide +kernel

/-- Is it right? Then this is what its fields are. -/
theorem right_parts (f rd rs1 rs2 imm csr : Int) (h : rightOf f rd rs1 rs2 imm csr = true) : partB rd (hasRdB f) 31 = true ∧ partB rs1 (hasRs1B f) 31 = true ∧ partB rs2 (hasRs2B f) 31 = true ∧ partB csr (hasCsrB f) 4095 = true ∧ immB imm f = true := by
  unfold rightOf at h
  simp only [Bool.and_eq_true] at h
  grind

theorem partB_y {n l : Int} (h : partB n true l = true) : 0 ≤ n ∧ n ≤ l := by simpa [partB] using h
theorem partB_n {n l : Int} (h : partB n false l = true) : n = 0 := by simpa [partB] using h

/-- What each put wants to know. -/
theorem enc_puts (k : Nat) (hk : k < 58) (hk0 : k ≠ 0) (rd rs1 rs2 imm csr m : Int) (hm : matchL.getD (k - 1) 0 = m) (hr : rightOf (formZ k) rd rs1 rs2 imm csr = true) :
    (0 ≤ m ∧ m < 4294967296) ∧ (0 ≤ rd ∧ rd < 32) ∧ (0 ≤ rs1 ∧ rs1 < 32) ∧ (0 ≤ rs2 ∧ rs2 < 32) ∧ (0 ≤ csr ∧ csr < 4096) ∧ (rd = 0 ∨ m / 128 % 32 = 0) ∧ (rs1 = 0 ∨ (m + rd * 128) / 32768 % 32 = 0) ∧ (rs2 = 0 ∨ (m + rd * 128 + rs1 * 32768) / 1048576 % 32 = 0) ∧ (csr = 0 ∨ (m + rd * 128 + rs1 * 32768 + rs2 * 1048576) / 1048576 % 4096 = 0) ∧ Free (formZ k) (m + rd * 128 + rs1 * 32768 + rs2 * 1048576 + csr * 1048576) := by
  have m0 := match_bd k hk hk0
  have m1 := match_p1 k hk hk0
  have m2 := match_p2 k hk hk0
  have m3 := match_p3 k hk hk0
  rw [hm] at m0 m1 m2 m3
  obtain ⟨p1, p2, p3, p4, _⟩ := right_parts _ _ _ _ _ _ hr
  have hf := formZ_lt k hk
  clear hr hm hk0
  generalize formZ k = f at *
  unfold Free
  rcases form10 hf with rfl | rfl | rfl | rfl | rfl | rfl | rfl | rfl | rfl | rfl
  · have q1 := partB_n p1
    have q2 := partB_n p2
    have q3 := partB_n p3
    have q4 := partB_n p4
    omega
  · have q1 := partB_y p1
    have q2 := partB_n p2
    have q3 := partB_n p3
    have q4 := partB_n p4
    omega
  · have q1 := partB_y p1
    have q2 := partB_n p2
    have q3 := partB_n p3
    have q4 := partB_n p4
    omega
  · have q1 := partB_y p1
    have q2 := partB_y p2
    have q3 := partB_n p3
    have q4 := partB_n p4
    omega
  · have q1 := partB_n p1
    have q2 := partB_y p2
    have q3 := partB_y p3
    have q4 := partB_n p4
    omega
  · have q1 := partB_n p1
    have q2 := partB_y p2
    have q3 := partB_y p3
    have q4 := partB_n p4
    omega
  · have q1 := partB_y p1
    have q2 := partB_y p2
    have q3 := partB_y p3
    have q4 := partB_n p4
    omega
  · have q1 := partB_y p1
    have q2 := partB_y p2
    have q3 := partB_n p3
    have q4 := partB_n p4
    omega
  · have q1 := partB_y p1
    have q2 := partB_y p2
    have q3 := partB_n p3
    have q4 := partB_y p4
    omega
  · have q1 := partB_y p1
    have q2 := partB_n p2
    have q3 := partB_n p3
    have q4 := partB_y p4
    omega
end Go.Proofs.YtakomdopeadcjaaDoor
