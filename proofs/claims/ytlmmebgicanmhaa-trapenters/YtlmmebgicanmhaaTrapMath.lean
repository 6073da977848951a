/- Layer 17 as mathematics: a single bit of a word read, set and cleared; Status behind a trap and behind the way back; where a trap goes on; who calls is heard; a cause's name. -/
import Derived.Test.YtlmmebgicanmhaaMath
import Derived.Lib.Hide
namespace Go.Proofs.Ytlmmebgicanmhaa
open Go.RowKit
set_option linter.unusedVariables false

theorem bit_low {b : Nat} (h : b < 2) : b ||| 1 = 1 := by
  have : b = 0 ∨ b = 1 := by omega
  rcases this with rfl | rfl <;> rfl

theorem nat_or_bit (A X : Nat) : X ||| 2 ^ A = X - X / 2 ^ A % 2 * 2 ^ A + 2 ^ A := by
  have hP : 0 < 2 ^ A := Nat.pow_pos (by omega)
  have x1 : X = 2 ^ A * (X / 2 ^ A) + X % 2 ^ A := (Nat.div_add_mod X (2 ^ A)).symm
  have x2 : X / 2 ^ A = 2 ^ 1 * (X / 2 ^ A / 2) + X / 2 ^ A % 2 := by omega
  have d1 : X % 2 ^ A < 2 ^ A := Nat.mod_lt _ hP
  have d2 : X / 2 ^ A % 2 < 2 := by omega
  generalize X % 2 ^ A = d at *
  generalize X / 2 ^ A / 2 = c at *
  generalize X / 2 ^ A % 2 = b at *
  have xx : X = 2 ^ A * (2 ^ 1 * c + b) + d := by rw [← x2]; exact x1
  have e : 2 ^ A = 2 ^ A * (2 ^ 1 * 0 + 1) + 0 := by simp
  have f : X ||| 2 ^ A = 2 ^ A * (2 ^ 1 * c + 1) + d := by
    rw [xx]
    conv => lhs; rhs; rw [e]
    rw [joint_or A _ _ _ _ d1 hP, joint_or 1 _ _ _ _ (by simpa using d2) (by decide), bit_low d2]
    simp
  rw [f, xx]
  have g : 2 ^ A * (2 ^ 1 * c + b) = 2 ^ A * (2 ^ 1 * c) + b * 2 ^ A := by rw [Nat.mul_add, Nat.mul_comm b]
  rw [g, Nat.mul_add]
  omega

theorem nat_and_bit (A X : Nat) : X &&& 2 ^ A = X / 2 ^ A % 2 * 2 ^ A := by
  have hP : 0 < 2 ^ A := Nat.pow_pos (by omega)
  have x1 : X = 2 ^ A * (X / 2 ^ A) + X % 2 ^ A := (Nat.div_add_mod X (2 ^ A)).symm
  have d1 : X % 2 ^ A < 2 ^ A := Nat.mod_lt _ hP
  have e : 2 ^ A = 2 ^ A * 1 + 0 := by simp
  have f : X &&& 2 ^ A = 2 ^ A * (X / 2 ^ A &&& 1) := by
    conv => lhs; rw [x1]; rhs; rw [e]
    rw [joint_and A _ _ _ _ d1 hP]
    simp
  rw [f, Nat.and_one_is_mod, Nat.mul_comm]

theorem and_bit (w : Int) (A : Nat) (hA : A < 32) (w0 : 0 ≤ w) (w1 : w < 4294967296) : bits .and .u32 w ((2 ^ A : Nat) : Int) = bitsOf w A 1 * ((2 ^ A : Nat) : Int) := by
  obtain ⟨X, rfl⟩ := Int.eq_ofNat_of_zero_le w0
  have hm : 2 ^ A < 4294967296 := Nat.pow_lt_pow_right (a := 2) (m := A) (n := 32) (by omega) hA
  rw [u32_and_nat X _ (by omega) hm, nat_and_bit]
  unfold bitsOf
  rw [pw_nat, pw_nat]
  simp

theorem or_bit (w : Int) (A : Nat) (hA : A < 32) (w0 : 0 ≤ w) (w1 : w < 4294967296) : bits .or .u32 w ((2 ^ A : Nat) : Int) = putOf w A 1 1 := by
  obtain ⟨X, rfl⟩ := Int.eq_ofNat_of_zero_le w0
  have hm : 2 ^ A < 4294967296 := Nat.pow_lt_pow_right (a := 2) (m := A) (n := 32) (by omega) hA
  have q : X / 2 ^ A % 2 * 2 ^ A ≤ X := Nat.le_trans (Nat.mul_le_mul_right _ (Nat.mod_le _ _)) (Nat.div_mul_le_self _ _)
  rw [u32_or_nat X _ (by omega) hm, nat_or_bit]
  unfold putOf bitsOf
  rw [pw_nat, pw_nat]
  rw [Int.natCast_add, Int.natCast_sub q]
  simp

theorem andNot_bit (w : Int) (A : Nat) (hA : A < 32) (w0 : 0 ≤ w) (w1 : w < 4294967296) : bits .andNot .u32 w ((2 ^ A : Nat) : Int) = putOf w A 1 0 := by
  obtain ⟨X, rfl⟩ := Int.eq_ofNat_of_zero_le w0
  have hm : 2 ^ A < 4294967296 := Nat.pow_lt_pow_right (a := 2) (m := A) (n := 32) (by omega) hA
  have q : X / 2 ^ A % 2 * 2 ^ A ≤ X := Nat.le_trans (Nat.mul_le_mul_right _ (Nat.mod_le _ _)) (Nat.div_mul_le_self _ _)
  rw [u32_andNot_nat X _ (by omega) hm]
  have h := nat_put A 1 X 0 (by omega) (by omega)
  simp at h
  rw [h]
  unfold putOf bitsOf
  rw [pw_nat, pw_nat]
  rw [Int.natCast_sub q]
  simp

/-- A word's bit, as numbers tell it. -/
theorem bit_num (w : Int) : bitsOf w 0 1 = w % 2 ∧ bitsOf w 3 1 = w / 8 % 2 ∧ bitsOf w 7 1 = w / 128 % 2 ∧ bitsOf w 11 1 = w / 2048 % 2 ∧ bitsOf w 31 1 = w / 2147483648 % 2 := by
  unfold bitsOf pw
  simp
theorem put_num (w x : Int) : putOf w 3 1 x = w - w / 8 % 2 * 8 + x % 2 * 8 ∧ putOf w 7 1 x = w - w / 128 % 2 * 128 + x % 2 * 128 := by
  unfold putOf bitsOf pw
  simp

/-- Status behind a trap, and behind the way back. -/
def enterS (s : Int) : Int := putOf (putOf s 7 1 (bitsOf s 3 1)) 3 1 0
def returnS (s : Int) : Int := putOf (putOf s 3 1 (bitsOf s 7 1)) 7 1 1

theorem put_bd {w x : Int} (w0 : 0 ≤ w) (w1 : w < 4294967296) : (0 ≤ putOf w 3 1 x ∧ putOf w 3 1 x < 4294967296) ∧ 0 ≤ putOf w 7 1 x ∧ putOf w 7 1 x < 4294967296 := by
  rw [(put_num w x).1, (put_num w x).2]
  omega
theorem bit_bd (w a : Int) : 0 ≤ bitsOf w a 1 ∧ bitsOf w a 1 < 2 := ⟨bitsOf_nn _ _ _, bitsOf_lt _ _ _⟩
theorem enterS_bd {s : Int} (s0 : 0 ≤ s) (s1 : s < 4294967296) : 0 ≤ enterS s ∧ enterS s < 4294967296 :=
  have h := (put_bd (x := bitsOf s 3 1) s0 s1).2
  (put_bd h.1 h.2).1
theorem returnS_bd {s : Int} (s0 : 0 ≤ s) (s1 : s < 4294967296) : 0 ≤ returnS s ∧ returnS s < 4294967296 :=
  have h := (put_bd (x := bitsOf s 7 1) s0 s1).1
  (put_bd h.1 h.2).2

/-- Nobody is heard in a trap; behind the way back just if it was so ahead of the trap. -/
theorem enterS_deaf (s : Int) : bitsOf (enterS s) 3 1 = 0 := by
  unfold enterS
  rw [(bit_num _).2.1, (put_num _ _).1]
  omega
/-- A Status by its parts: below bit 3, bit 3, between, bit 7, above. -/
def stZ (l b m c h : Int) : Int := l + 8 * b + 16 * m + 128 * c + 256 * h
theorem st_parts (s : Int) : ∃ l b m c h, (0 ≤ l ∧ l < 8) ∧ (0 ≤ b ∧ b < 2) ∧ (0 ≤ m ∧ m < 8) ∧ (0 ≤ c ∧ c < 2) ∧ s = stZ l b m c h :=
  ⟨s % 8, s / 8 % 2, s / 16 % 8, s / 128 % 2, s / 256, by unfold stZ; omega⟩
theorem st_bits {l b m c : Int} (h : Int) (l0 : 0 ≤ l ∧ l < 8) (b0 : 0 ≤ b ∧ b < 2) (m0 : 0 ≤ m ∧ m < 8) (c0 : 0 ≤ c ∧ c < 2) : bitsOf (stZ l b m c h) 3 1 = b ∧ bitsOf (stZ l b m c h) 7 1 = c := by
  rw [(bit_num _).2.1, (bit_num _).2.2.1]
  unfold stZ
  omega
theorem st_put3 {l b m c : Int} (h x : Int) (l0 : 0 ≤ l ∧ l < 8) (b0 : 0 ≤ b ∧ b < 2) (m0 : 0 ≤ m ∧ m < 8) (c0 : 0 ≤ c ∧ c < 2) (x0 : 0 ≤ x ∧ x < 2) : putOf (stZ l b m c h) 3 1 x = stZ l x m c h := by
  rw [(put_num _ _).1, ← (bit_num _).2.1, (st_bits h l0 b0 m0 c0).1]
  unfold stZ
  omega
theorem st_put7 {l b m c : Int} (h x : Int) (l0 : 0 ≤ l ∧ l < 8) (b0 : 0 ≤ b ∧ b < 2) (m0 : 0 ≤ m ∧ m < 8) (c0 : 0 ≤ c ∧ c < 2) (x0 : 0 ≤ x ∧ x < 2) : putOf (stZ l b m c h) 7 1 x = stZ l b m x h := by
  rw [(put_num _ _).2, ← (bit_num _).2.2.1, (st_bits h l0 b0 m0 c0).2]
  unfold stZ
  omega
theorem returnS_heard (s : Int) : bitsOf (returnS (enterS s)) 3 1 = bitsOf s 3 1 := by
  obtain ⟨l, b, m, c, h, l0, b0, m0, c0, rfl⟩ := st_parts s
  have z : (0 : Int) ≤ 0 ∧ (0 : Int) < 2 := by omega
  have o : (0 : Int) ≤ 1 ∧ (1 : Int) < 2 := by omega
  unfold returnS enterS
  rw [(st_bits h l0 b0 m0 c0).1, st_put7 h b l0 b0 m0 c0 b0, st_put3 h 0 l0 b0 m0 b0 z, (st_bits h l0 z m0 b0).2, st_put3 h b l0 z m0 b0 b0, st_put7 h 1 l0 b0 m0 b0 o, (st_bits h l0 b0 m0 o).1]

/-- Where a trap goes on. -/
def atZ (t c : Int) : Int := if 2147483648 ≤ c ∧ t % 2 = 1 then (t / 4 * 4 + 4 * (c - 2147483648)) % 4294967296 else t / 4 * 4

/-- As the program reckons: bits that are masked. -/
theorem hears_is {s : Int} (s0 : 0 ≤ s) (s1 : s < 4294967296) : (bits .and .u32 s 8 != 0) = decide (bitsOf s 3 1 = 1) ∧ (bits .and .u32 s 128 != 0) = decide (bitsOf s 7 1 = 1) := by
  have h3 : bits .and .u32 s 8 = bitsOf s 3 1 * 8 := and_bit s 3 (by omega) s0 s1
  have h7 : bits .and .u32 s 128 = bitsOf s 7 1 * 128 := and_bit s 7 (by omega) s0 s1
  have b3 := bit_bd s 3
  have b7 := bit_bd s 7
  rw [h3, h7]
  refine ⟨?_, ?_⟩
  · by_cases h : bitsOf s 3 1 = 1
    · rw [h]; simp
    · rw [show bitsOf s 3 1 = 0 from by omega]; simp
  · by_cases h : bitsOf s 7 1 = 1
    · rw [h]; simp
    · rw [show bitsOf s 7 1 = 0 from by omega]; simp
theorem pick_bit (s a : Int) : (if decide (bitsOf s a 1 = 1) = true then (1 : Int) else 0) = bitsOf s a 1 := by
  have b := bit_bd s a
  by_cases h : bitsOf s a 1 = 1
  · rw [h]; simp
  · rw [show bitsOf s a 1 = 0 from by omega]; simp
theorem called_is {c : Int} (c0 : 0 ≤ c) (c1 : c < 4294967296) : (bits .and .u32 c 2147483648 != 0) = decide (2147483648 ≤ c) := by
  have h : bits .and .u32 c 2147483648 = bitsOf c 31 1 * 2147483648 := and_bit c 31 (by omega) c0 c1
  rw [h, (bit_num c).2.2.2.2]
  by_cases g : 2147483648 ≤ c
  · rw [show c / 2147483648 % 2 = 1 from by omega]; simp [g]
  · rw [show c / 2147483648 % 2 = 0 from by omega]; simp [g]
theorem apart_is {t : Int} (t0 : 0 ≤ t) (t1 : t < 4294967296) : (bits .and .u32 t 1 != 0) = decide (t % 2 = 1) := by
  have h : bits .and .u32 t 1 = bitsOf t 0 1 * 1 := and_bit t 0 (by omega) t0 t1
  rw [h, (bit_num t).1]
  by_cases g : t % 2 = 1
  · rw [g]; simp
  · rw [show t % 2 = 0 from by omega]; simp
theorem uncalled {c : Int} (c0 : 2147483648 ≤ c) (c1 : c < 4294967296) : bits .andNot .u32 c 2147483648 = c - 2147483648 := by
  have h : bits .andNot .u32 c 2147483648 = putOf c 31 1 0 := andNot_bit c 31 (by omega) (by omega) c1
  rw [h]
  unfold putOf
  rw [(bit_num c).2.2.2.2, show c / 2147483648 % 2 = 1 from by omega]
  unfold pw
  simp
theorem address_is {t : Int} (t0 : 0 ≤ t) (t1 : t < 4294967296) : bits .andNot .u32 t 3 = t / 4 * 4 := by
  have h := put_both t 0 2 0 t0 t1 (by omega) (by omega) (by omega) (by omega) (by omega)
  have e : (pw 2 - 1) * 2 ^ (0 : Int).toNat % 4294967296 = 3 := by decide
  obtain ⟨X, rfl⟩ := Int.eq_ofNat_of_zero_le t0
  have g := nat_put 0 2 X 0 (by omega) (by omega)
  rw [show (3 : Int) = ((3 : Nat) : Int) from rfl, u32_andNot_nat X 3 (by omega) (by omega)]
  simp at g ⊢
  rw [g]
  omega

/-- The bits that are called and asked for. -/
def askB (i c k : Int) : Bool := decide (bitsOf c k 1 = 1) && decide (bitsOf i k 1 = 1)
def wakesB (i c : Int) : Bool := askB i c 3 || askB i c 7 || askB i c 11
def heardZ (s i c : Int) : Int := if bitsOf s 3 1 = 0 then 0 else if askB i c 11 then 2147483659 else if askB i c 3 then 2147483651 else if askB i c 7 then 2147483655 else 0
def heardB (s i c : Int) : Bool := decide (bitsOf s 3 1 ≠ 0) && wakesB i c
end Go.Proofs.Ytlmmebgicanmhaa
