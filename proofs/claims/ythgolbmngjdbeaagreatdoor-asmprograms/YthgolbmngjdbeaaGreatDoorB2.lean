/- My texts EncMath, DisMath, AsmMath, Hex, Unhex, AsmRef, AsmNum, AsmLines, AsmGoM, AsmGoA, Shelf6, AsmStr, AsmNumber, bound into one. -/
import Derived.Test.YthgolbmngjdbeaaGreatDoorB1
import Derived.Laws.IdiomStrings
import Derived.Laws.BytesArg
import Derived.OwnWalk
import Derived.Laws.OwnMore
import Derived.Test.YthgolbmngjdbeaaGreatDoorRows
import Derived.Shelf.Small.Wraps
import Derived.Shelf.Strings.Search2
import Derived.Shelf.Strings.Search3
import Derived.Shelf.Strings.Count
import Derived.Shelf.Strings.SplitCore
import Derived.Shelf.Strings.Fields
import Derived.Lib.LaidTab
import Derived.Lib.AppendIntMem
import Derived.Lib.Walk
import Derived.Lib.SplitLaws
import Derived.Lib.CutLaws
import Derived.BigCall
import Derived.BigGuard
/- Layer 4: a word out of an instruction's fields, as arithmetic: no program in sight but layer 2's tables. -/
namespace Go.Proofs.YthgolbmngjdbeaaGreatDoor
open Go.RowKit
set_option linter.unusedVariables false

/-- A number shifted up and down: its lowest bits at their place. -/
theorem sh_val (n a b m p : Int) (h0 : 0 ≤ b) (h1 : b ≤ a) (h2 : a ≤ 31) (hm : pw (a - b + 1) = m) (hp : pw b = p) : n * 2 ^ (31 - a + b).toNat % 4294967296 / 2 ^ (31 - a).toNat = n % m * p := by
  subst hm hp
  have e : (4294967296 : Int) = pw (31 - a + b) * pw (a - b + 1) := by
    rw [← pw_add _ _ (by omega) (by omega), show 31 - a + b + (a - b + 1) = 32 from by omega, pw_32]
  have f : (2 : Int) ^ (31 - a + b).toNat = pw (31 - a + b) := rfl
  have g : (2 : Int) ^ (31 - a).toNat = pw (31 - a) := rfl
  rw [f, g, e, Int.mul_comm n, Int.mul_emod_mul_of_pos _ _ (pw_pos _), pw_add _ _ (by omega) h0, Int.mul_assoc, Int.mul_ediv_cancel_left _ (by have := pw_pos (31 - a); omega), Int.mul_comm]

theorem nat_or_free (A N X y : Nat) (hy : y < 2 ^ N) (hX : X / 2 ^ A % 2 ^ N = 0) : X ||| (y * 2 ^ A) = X + y * 2 ^ A := by
  have hP : 0 < 2 ^ A := Nat.pow_pos (by omega)
  have hQ : 0 < 2 ^ N := Nat.pow_pos (by omega)
  have x1 : X = 2 ^ A * (X / 2 ^ A) + X % 2 ^ A := (Nat.div_add_mod X (2 ^ A)).symm
  have x2 : X / 2 ^ A = 2 ^ N * (X / 2 ^ A / 2 ^ N) + X / 2 ^ A % 2 ^ N := (Nat.div_add_mod (X / 2 ^ A) (2 ^ N)).symm
  have d1 : X % 2 ^ A < 2 ^ A := Nat.mod_lt _ hP
  rw [hX] at x2
  generalize X % 2 ^ A = d at *
  generalize X / 2 ^ A / 2 ^ N = c at *
  have xx : X = 2 ^ A * (2 ^ N * c + 0) + d := by rw [← x2]; exact x1
  have f2 : y * 2 ^ A = 2 ^ A * (2 ^ N * 0 + y) + 0 := by rw [Nat.mul_comm]; simp
  rw [f2, xx, joint_or A _ _ _ _ d1 hP, joint_or N _ _ _ _ hQ hy]
  simp only [Nat.or_zero, Nat.zero_or, Nat.mul_zero, Nat.zero_add, Nat.add_zero, Nat.mul_add]
  omega

/-- A field put where there is nothing yet (or nothing put): as a sum. -/
theorem or_free (x n a b m p : Int) (hx0 : 0 ≤ x) (hx1 : x < 4294967296) (n0 : 0 ≤ n) (h0 : 0 ≤ b) (h1 : b ≤ a) (h2 : a ≤ 31) (hm : pw (a - b + 1) = m) (hp : pw b = p) (hz : n % m = 0 ∨ x / p % m = 0) :
    bits .or .u32 x (n % m * p) = x + n % m * p ∧ 0 ≤ x + n % m * p ∧ x + n % m * p < 4294967296 := by
  subst hm hp
  obtain ⟨X, rfl⟩ := Int.eq_ofNat_of_zero_le hx0
  obtain ⟨Y, rfl⟩ := Int.eq_ofNat_of_zero_le n0
  obtain ⟨A, rfl⟩ := Int.eq_ofNat_of_zero_le h0
  obtain ⟨N, hN⟩ := Int.eq_ofNat_of_zero_le (show 0 ≤ a - A + 1 by omega)
  rw [hN] at hz ⊢
  have hQ : 0 < 2 ^ N := Nat.pow_pos (by omega)
  have hP : 0 < 2 ^ A := Nat.pow_pos (by omega)
  have PQ : 2 ^ N * 2 ^ A ≤ 4294967296 := by
    rw [← Nat.pow_add]; exact Nat.pow_le_pow_right (i := N + A) (j := 32) (n := 2) (by omega) (by omega)
  have m2 : Y % 2 ^ N * 2 ^ A < 4294967296 := by
    have : Y % 2 ^ N < 2 ^ N := Nat.mod_lt _ hQ
    exact Nat.lt_of_lt_of_le (Nat.mul_lt_mul_of_pos_right this hP) PQ
  have k2 : (Y : Int) % pw N * pw A = ((Y % 2 ^ N * 2 ^ A : Nat) : Int) := by
    rw [pw_nat, pw_nat]; simp
  rw [k2]
  have l := Nat.or_lt_two_pow (n := 32) (x := X) (y := Y % 2 ^ N * 2 ^ A) (by omega) m2
  rw [u32_or_nat _ _ (by omega) m2]
  have e : X ||| (Y % 2 ^ N * 2 ^ A) = X + Y % 2 ^ N * 2 ^ A := by
    rcases hz with hz | hz
    · have : Y % 2 ^ N = 0 := by
        rw [pw_nat] at hz; simp only [Int.toNat_natCast] at hz; omega
      rw [this]; simp
    · refine nat_or_free A N X _ (Nat.mod_lt _ hQ) ?_
      rw [pw_nat, pw_nat] at hz; simp only [Int.toNat_natCast] at hz
      have : (((X / 2 ^ A % 2 ^ N : Nat)) : Int) = 0 := by rw [Int.natCast_emod, Int.natCast_ediv]; exact hz
      omega
  rw [e] at l ⊢
  refine ⟨rfl, ?_, ?_⟩ <;> omega

/-- The number of a form at its places. -/
def immPut (f n : Int) : Int :=
  if f = 1 then n / 4096 % 1048576 * 4096
  else if f = 2 then n / 1048576 % 2 * 2147483648 + n / 2 % 1024 * 2097152 + n / 2048 % 2 * 1048576 + n / 4096 % 256 * 4096
  else if f = 3 then n % 4096 * 1048576
  else if f = 4 then n / 4096 % 2 * 2147483648 + n / 32 % 64 * 33554432 + n / 2 % 16 * 256 + n / 2048 % 2 * 128
  else if f = 5 then n / 32 % 128 * 33554432 + n % 32 * 128
  else if f = 7 then n % 32 * 1048576
  else if f = 9 then n % 32 * 32768 else 0
/-- Where a form's number goes there is nothing yet. -/
def Free (f x : Int) : Prop := (f = 1 ∨ f = 2 → x / 4096 % 1048576 = 0) ∧ (f = 3 → x / 1048576 % 4096 = 0) ∧ (f = 4 ∨ f = 5 → x / 33554432 % 128 = 0 ∧ x / 128 % 32 = 0) ∧ (f = 7 → x / 1048576 % 32 = 0) ∧ (f = 9 → x / 32768 % 32 = 0)
/-- What an instruction's word has beside its number. -/
def headOf (k : Nat) (rd rs1 rs2 csr : Int) : Int := matchL.getD (k - 1) 0 + rd * 128 + rs1 * 32768 + rs2 * 1048576 + csr * 1048576
/-- An instruction's word. -/
def encOf (k : Nat) (rd rs1 rs2 imm csr : Int) : Int := headOf k rd rs1 rs2 csr + immPut (formZ k) imm

theorem match_bd : ∀ k, k < 58 → k ≠ 0 → 0 ≤ matchL.getD (k - 1) 0 ∧ matchL.getD (k - 1) 0 < 4294967296 := by decide +kernel
theorem match_p1 : ∀ k, k < 58 → k ≠ 0 → (formZ k = 1 ∨ formZ k = 2) → matchL.getD (k - 1) 0 < 128 := by decide +kernel
theorem match_p2 : ∀ k, k < 58 → k ≠ 0 → (formZ k = 3 ∨ formZ k = 4 ∨ formZ k = 5 ∨ formZ k = 8 ∨ formZ k = 9) → matchL.getD (k - 1) 0 < 32768 ∧ matchL.getD (k - 1) 0 / 128 % 32 = 0 := by decide +kernel
theorem match_p3 : ∀ k, k < 58 → k ≠ 0 → (formZ k = 6 ∨ formZ k = 7) → matchL.getD (k - 1) 0 / 128 % 32 = 0 ∧ matchL.getD (k - 1) 0 / 32768 % 1024 = 0 := by decide +kernel

/-- Is it right? Then this is what its fields are. -/
theorem right_parts (f rd rs1 rs2 imm csr : Int) (h : rightOf f rd rs1 rs2 imm csr = true) : partB rd (hasRdB f) 31 = true ∧ partB rs1 (hasRs1B f) 31 = true ∧ partB rs2 (hasRs2B f) 31 = true ∧ partB csr (hasCsrB f) 4095 = true ∧ immB imm f = true := by
  unfold rightOf at h
  simp only [Bool.and_eq_true] at h
  grind

theorem partB_y {n l : Int} (h : partB n true l = true) : 0 ≤ n ∧ n ≤ l := by simpa [partB] using h
theorem partB_n {n l : Int} (h : partB n false l = true) : n = 0 := by simpa [partB] using h

/-- What each put wants to know. -/
theorem enc_puts (k : Nat) (hk : k < 58) (hk0 : k ≠ 0) (rd rs1 rs2 imm csr m : Int) (hm : matchL.getD (k - 1) 0 = m) (hr : rightOf (formZ k) rd rs1 rs2 imm csr = true) :
    (0 ≤ m ∧ m < 4294967296) ∧ (0 ≤ rd ∧ rd < 32) ∧ (0 ≤ rs1 ∧ rs1 < 32) ∧ (0 ≤ rs2 ∧ rs2 < 32) ∧ (0 ≤ csr ∧ csr < 4096) ∧ (rd = 0 ∨ m / 128 % 32 = 0) ∧ (rs1 = 0 ∨ (m + rd * 128) / 32768 % 32 = 0) ∧ (rs2 = 0 ∨ (m + rd * 128 + rs1 * 32768) / 1048576 % 32 = 0) ∧ (csr = 0 ∨ (m + rd * 128 + rs1 * 32768 + rs2 * 1048576) / 1048576 % 4096 = 0) ∧ Free (formZ k) (m + rd * 128 + rs1 * 32768 + rs2 * 1048576 + csr * 1048576) := by
  have m0 := match_bd k hk hk0
  have m1 := match_p1 k hk hk0
  have m2 := match_p2 k hk hk0
  have m3 := match_p3 k hk hk0
  rw [hm] at m0 m1 m2 m3
  obtain ⟨p1, p2, p3, p4, _⟩ := right_parts _ _ _ _ _ _ hr
  have hf := formZ_lt k hk
  clear hr hm hk0
  generalize formZ k = f at *
  unfold Free
  rcases form10 hf with rfl | rfl | rfl | rfl | rfl | rfl | rfl | rfl | rfl | rfl
  · have q1 := partB_n p1
    have q2 := partB_n p2
    have q3 := partB_n p3
    have q4 := partB_n p4
    omega
  · have q1 := partB_y p1
    have q2 := partB_n p2
    have q3 := partB_n p3
    have q4 := partB_n p4
    omega
  · have q1 := partB_y p1
    have q2 := partB_n p2
    have q3 := partB_n p3
    have q4 := partB_n p4
    omega
  · have q1 := partB_y p1
    have q2 := partB_y p2
    have q3 := partB_n p3
    have q4 := partB_n p4
    omega
  · have q1 := partB_n p1
    have q2 := partB_y p2
    have q3 := partB_y p3
    have q4 := partB_n p4
    omega
  · have q1 := partB_n p1
    have q2 := partB_y p2
    have q3 := partB_y p3
    have q4 := partB_n p4
    omega
  · have q1 := partB_y p1
    have q2 := partB_y p2
    have q3 := partB_y p3
    have q4 := partB_n p4
    omega
  · have q1 := partB_y p1
    have q2 := partB_y p2
    have q3 := partB_n p3
    have q4 := partB_n p4
    omega
  · have q1 := partB_y p1
    have q2 := partB_y p2
    have q3 := partB_n p3
    have q4 := partB_y p4
    omega
  · have q1 := partB_y p1
    have q2 := partB_n p2
    have q3 := partB_n p3
    have q4 := partB_y p4
    omega
end Go.Proofs.YthgolbmngjdbeaaGreatDoor

/- Layer 5: texts of numbers and instructions, as lists of signs; two right instructions with one text are one (P5.2). No program in sight but layer 2's tables. -/
namespace Go.Proofs.YthgolbmngjdbeaaGreatDoor
open Go.RowKit
set_option linter.unusedVariables false

/-- Signs as a string. -/
def bs (l : List UInt8) : ByteArray := ⟨l.toArray⟩
theorem bs_app (a b : List UInt8) : bs a ++ bs b = bs (a ++ b) := by
  apply ByteArray.ext
  simp [bs]
theorem bs_size (l : List UInt8) : (bs l).size = l.length := by simp [bs, ByteArray.size]
theorem bs_inj {a b : List UInt8} (h : bs a = bs b) : a = b := by
  have := congrArg ByteArray.data h
  simpa [bs] using this
theorem nameS_bs (k : Nat) : nameS k = bs (nameL.getD k []) := rfl

def dch (d : Nat) : UInt8 := UInt8.ofNat (48 + d)
theorem dch_val (d : Nat) (h : d < 10) : (dch d).toNat = 48 + d := by
  unfold dch
  rw [UInt8.toNat_ofNat']
  omega
def digF : Nat → Nat → List UInt8
  | 0, n => [dch (n % 10)]
  | f + 1, n => if n < 10 then [dch n] else digF f (n / 10) ++ [dch (n % 10)]
/-- The decimal digits of a number below 10 to the 20. -/
def dig10 (n : Nat) : List UInt8 := digF 19 n

def valL (l : List UInt8) : Nat := l.foldl (fun a c => a * 10 + (c.toNat - 48)) 0
theorem valL_app (l : List UInt8) (c : UInt8) : valL (l ++ [c]) = valL l * 10 + (c.toNat - 48) := by simp [valL]
theorem valL_one (c : UInt8) : valL [c] = c.toNat - 48 := by simp [valL]
theorem val_digF : ∀ f n, n < 10 ^ (f + 1) → valL (digF f n) = n
  | 0, n, h => by
    have : n % 10 = n := by omega
    rw [digF, valL_one, this, dch_val n (by omega)]; omega
  | f + 1, n, h => by
    rw [digF]
    split
    · rw [valL_one, dch_val n (by assumption)]; omega
    · rw [valL_app, val_digF f (n / 10) (by rw [Nat.pow_succ] at h; omega), dch_val _ (by omega)]; omega
theorem digF_step (f n : Nat) (h : ¬ n < 10) : digF (f + 1) n = digF f (n / 10) ++ [dch (n % 10)] := by
  rw [digF, if_neg h]
/-- More fuel makes no difference. -/
theorem digF_more : ∀ f n, n < 10 ^ (f + 1) → digF (f + 1) n = digF f n
  | 0, n, h => by
    show (if n < 10 then [dch n] else digF 0 (n / 10) ++ [dch (n % 10)]) = [dch (n % 10)]
    rw [if_pos (by omega), show n % 10 = n from by omega]
  | f + 1, n, h => by
    show (if n < 10 then [dch n] else digF (f + 1) (n / 10) ++ [dch (n % 10)]) = (if n < 10 then [dch n] else digF f (n / 10) ++ [dch (n % 10)])
    rw [digF_more f (n / 10) (by rw [Nat.pow_succ] at h; omega)]
theorem dig10_small (n : Nat) (h : n < 10) : dig10 n = [dch n] := by
  unfold dig10; rw [digF, if_pos h]
theorem dig10_step (n : Nat) (h : ¬ n < 10) (h1 : n < 10 ^ 20) : dig10 n = dig10 (n / 10) ++ [dch (n % 10)] := by
  unfold dig10
  rw [digF_step 18 n h, digF_more 18 (n / 10) (by omega)]
theorem digF_len : ∀ f n, (digF f n).length ≤ f + 1
  | 0, n => by simp [digF]
  | f + 1, n => by
    rw [digF]
    split
    · simp
    · have := digF_len f (n / 10)
      simp; omega

/-- The signs of a number's text. -/
def IsNum (c : UInt8) : Prop := c = 45 ∨ (48 ≤ c.toNat ∧ c.toNat ≤ 57)
theorem dch_num (d : Nat) (h : d < 10) : 48 ≤ (dch d).toNat ∧ (dch d).toNat ≤ 57 := by rw [dch_val d h]; omega
theorem digF_num : ∀ f n, ∀ c ∈ digF f n, 48 ≤ c.toNat ∧ c.toNat ≤ 57
  | 0, n, c, h => by
    simp [digF] at h
    subst h; exact dch_num _ (by omega)
  | f + 1, n, c, h => by
    rw [digF] at h
    split at h
    · simp at h
      subst h; exact dch_num _ (by assumption)
    · simp at h
      rcases h with h | h
      · exact digF_num f _ c h
      · subst h; exact dch_num _ (by omega)

/-- A number's text. -/
def numL (n : Int) : List UInt8 := if n < 0 then 45 :: dig10 (0 - n).toNat else dig10 n.toNat
theorem numL_num (n : Int) : ∀ c ∈ numL n, IsNum c := by
  intro c h
  unfold numL at h
  split at h
  · simp at h
    rcases h with h | h
    · exact .inl h
    · exact .inr (digF_num _ _ c h)
  · exact .inr (digF_num _ _ c h)
theorem numL_len (n : Int) : (numL n).length ≤ 21 := by
  unfold numL
  split
  · have h := digF_len 19 (0 - n).toNat
    show (dig10 (0 - n).toNat).length + 1 ≤ 21
    unfold dig10; omega
  · have := digF_len 19 n.toNat
    unfold dig10; omega
theorem numL_inj {a b : Int} (ha : -10000000000000000000 < a ∧ a < 10000000000000000000) (hb : -10000000000000000000 < b ∧ b < 10000000000000000000) (h : numL a = numL b) : a = b := by
  have P : ∀ x : Nat, x < 10000000000000000000 → valL (dig10 x) = x := fun x hx => val_digF 19 x (Nat.lt_trans hx (by decide))
  have D : ∀ x : Nat, ∀ c ∈ dig10 x, c ≠ 45 := fun x c hc e => by
    have g := digF_num _ _ c hc
    rw [e] at g
    exact absurd g.1 (by decide)
  have N : ∀ (x y : Nat), dig10 x ≠ 45 :: dig10 y := fun x y e => D x 45 (by rw [e]; exact .head _) rfl
  unfold numL at h
  split at h <;> split at h
  · have := congrArg valL (List.cons.inj h).2
    rw [P _ (by omega), P _ (by omega)] at this
    omega
  · exact absurd h.symm (N _ _)
  · exact absurd h (N _ _)
  · have := congrArg valL h
    rw [P _ (by omega), P _ (by omega)] at this
    omega

/-- Two texts that go on behind a sign that neither piece holds. -/
theorem cut_at (c : UInt8) (hc : ¬ IsNum c) : ∀ (p p' r r' : List UInt8), (∀ x ∈ p, IsNum x) → (∀ x ∈ p', IsNum x) → p ++ c :: r = p' ++ c :: r' → p = p' ∧ r = r'
  | [], [], r, r', _, _, h => ⟨rfl, by simpa using h⟩
  | [], y :: q', r, r', _, h', h => by
    simp at h
    exact absurd (h.1 ▸ h' y (.head _)) hc
  | x :: q, [], r, r', h0, _, h => by
    simp at h
    exact absurd (h.1 ▸ h0 x (.head _)) hc
  | x :: q, y :: q', r, r', h0, h', h => by
    simp only [List.cons_append, List.cons.injEq] at h
    obtain ⟨e, he⟩ := h
    obtain ⟨e1, e2⟩ := cut_at c hc q q' r r' (fun z hz => h0 z (.tail _ hz)) (fun z hz => h' z (.tail _ hz)) he
    exact ⟨by rw [e, e1], e2⟩
theorem no44 : ¬ IsNum 44 := by unfold IsNum; decide
theorem no40 : ¬ IsNum 40 := by unfold IsNum; decide
theorem no41 : ¬ IsNum 41 := by unfold IsNum; decide
theorem num_cut (c : UInt8) (hc : ¬ IsNum c) {a b : Int} {r r' : List UInt8} (ha : -10000000000000000000 < a ∧ a < 10000000000000000000) (hb : -10000000000000000000 < b ∧ b < 10000000000000000000) (h : numL a ++ c :: r = numL b ++ c :: r') : a = b ∧ r = r' := by
  obtain ⟨e, e'⟩ := cut_at c hc _ _ _ _ (numL_num a) (numL_num b) h
  exact ⟨numL_inj ha hb e, e'⟩

/-- What stands behind the name and a blank; none: the name alone. -/
def restL (k : Nat) (rd rs1 rs2 imm csr : Int) : List UInt8 :=
  if formZ k = 1 then 32 :: 120 :: (numL rd ++ 44 :: 32 :: numL (imm / 4096))
  else if formZ k = 2 then 32 :: 120 :: (numL rd ++ 44 :: 32 :: numL (signedOf imm))
  else if formZ k = 3 then
    if k ≤ 15 then 32 :: 120 :: (numL rd ++ 44 :: 32 :: (numL (signedOf imm) ++ 40 :: 120 :: (numL rs1 ++ 41 :: [])))
    else 32 :: 120 :: (numL rd ++ 44 :: 32 :: 120 :: (numL rs1 ++ 44 :: 32 :: numL (signedOf imm)))
  else if formZ k = 4 then 32 :: 120 :: (numL rs1 ++ 44 :: 32 :: 120 :: (numL rs2 ++ 44 :: 32 :: numL (signedOf imm)))
  else if formZ k = 5 then 32 :: 120 :: (numL rs2 ++ 44 :: 32 :: (numL (signedOf imm) ++ 40 :: 120 :: (numL rs1 ++ 41 :: [])))
  else if formZ k = 6 then 32 :: 120 :: (numL rd ++ 44 :: 32 :: 120 :: (numL rs1 ++ 44 :: 32 :: 120 :: numL rs2))
  else if formZ k = 7 then 32 :: 120 :: (numL rd ++ 44 :: 32 :: 120 :: (numL rs1 ++ 44 :: 32 :: numL (signedOf imm)))
  else if formZ k = 8 then 32 :: 120 :: (numL rd ++ 44 :: 32 :: (numL csr ++ 44 :: 32 :: 120 :: numL rs1))
  else if formZ k = 9 then 32 :: 120 :: (numL rd ++ 44 :: 32 :: (numL csr ++ 44 :: 32 :: numL (signedOf imm)))
  else []
/-- An instruction's text. -/
def textL (k : Nat) (rd rs1 rs2 imm csr : Int) : List UInt8 := nameL.getD k [] ++ restL k rd rs1 rs2 imm csr

theorem name_plain : ∀ k, k < 58 → ∀ c ∈ nameL.getD k [], c ≠ 32 := by decide +kernel
theorem name_apart : ∀ k, k < 58 → ∀ j, j < 58 → nameL.getD k [] = nameL.getD j [] → k = j := by decide +kernel

theorem rest_blank (k : Nat) (hk : k < 58) (rd rs1 rs2 imm csr : Int) : restL k rd rs1 rs2 imm csr = [] ∨ ∃ r, restL k rd rs1 rs2 imm csr = 32 :: r := by
  unfold restL
  repeat' split
  all_goals first | exact .inr ⟨_, rfl⟩ | exact .inl rfl

/-- The name ends at the first blank. -/
theorem cut_blank : ∀ (p p' r r' : List UInt8), (∀ x ∈ p, x ≠ 32) → (∀ x ∈ p', x ≠ 32) → (r = [] ∨ ∃ q, r = 32 :: q) → (r' = [] ∨ ∃ q, r' = 32 :: q) → p ++ r = p' ++ r' → p = p' ∧ r = r'
  | [], [], r, r', _, _, _, _, h => ⟨rfl, by simpa using h⟩
  | [], y :: q', r, r', _, h', hr, _, h => by
    rcases hr with rfl | ⟨q, rfl⟩
    · simp at h
    · simp at h
      exact absurd h.1.symm (h' y (.head _))
  | x :: q, [], r, r', h0, _, _, hr', h => by
    rcases hr' with rfl | ⟨q, rfl⟩
    · simp at h
    · simp at h
      exact absurd h.1 (h0 x (.head _))
  | x :: q, y :: q', r, r', h0, h', hr, hr', h => by
    simp only [List.cons_append, List.cons.injEq] at h
    obtain ⟨e, he⟩ := h
    obtain ⟨e1, e2⟩ := cut_blank q q' r r' (fun z hz => h0 z (.tail _ hz)) (fun z hz => h' z (.tail _ hz)) hr hr' he
    exact ⟨by rw [e, e1], e2⟩

theorem signed_inj {a b : Int} (a0 : 0 ≤ a) (a1 : a < 4294967296) (b0 : 0 ≤ b) (b1 : b < 4294967296) (h : signedOf a = signedOf b) : a = b := by
  unfold signedOf at h
  split at h <;> split at h <;> omega
theorem signed_small {a : Int} (a0 : 0 ≤ a) (a1 : a < 4294967296) : -10000000000000000000 < signedOf a ∧ signedOf a < 10000000000000000000 := by
  unfold signedOf; split <;> omega

set_option maxHeartbeats 1000000 in
/-- P5.2 -/
theorem text_inj (k j : Nat) (hk : k < 58) (hj : j < 58) (rd rs1 rs2 imm csr rd' rs1' rs2' imm' csr' : Int) (i0 : 0 ≤ imm) (i1 : imm < 4294967296) (i0' : 0 ≤ imm') (i1' : imm' < 4294967296)
    (hr : rightOf (formZ k) rd rs1 rs2 imm csr = true) (hr' : rightOf (formZ j) rd' rs1' rs2' imm' csr' = true) (h : textL k rd rs1 rs2 imm csr = textL j rd' rs1' rs2' imm' csr') :
    k = j ∧ rd = rd' ∧ rs1 = rs1' ∧ rs2 = rs2' ∧ imm = imm' ∧ csr = csr' := by
  obtain ⟨en, er⟩ := cut_blank _ _ _ _ (name_plain k hk) (name_plain j hj) (rest_blank k hk _ _ _ _ _) (rest_blank j hj _ _ _ _ _) h
  obtain rfl := name_apart k hk j hj en
  clear en h
  obtain ⟨p1, p2, p3, p4, p5⟩ := right_parts _ _ _ _ _ _ hr
  obtain ⟨q1, q2, q3, q4, q5⟩ := right_parts _ _ _ _ _ _ hr'
  have s1 := signed_small i0 i1
  have s2 := signed_small i0' i1'
  have B : ∀ {x : Int} {b : Bool} {l : Int}, l ≤ 4095 → partB x b l = true → -10000000000000000000 < x ∧ x < 10000000000000000000 := fun {x b l} hl h => by
    cases b
    · have := partB_n h; omega
    · have := partB_y h; omega
  have b1 := B (by decide) p1
  have b2 := B (by decide) p2
  have b3 := B (by decide) p3
  have b4 := B (by decide) p4
  have c1 := B (by decide) q1
  have c2 := B (by decide) q2
  have c3 := B (by decide) q3
  have c4 := B (by decide) q4
  have d1 : -10000000000000000000 < imm / 4096 ∧ imm / 4096 < 10000000000000000000 := by omega
  have d2 : -10000000000000000000 < imm' / 4096 ∧ imm' / 4096 < 10000000000000000000 := by omega
  have SI : signedOf imm = signedOf imm' → imm = imm' := signed_inj i0 i1 i0' i1'
  unfold restL at er
  have hf := formZ_lt k hk
  generalize formZ k = f at *
  clear hr hr' B
  refine ⟨rfl, ?_⟩
  rcases form10 hf with rfl | rfl | rfl | rfl | rfl | rfl | rfl | rfl | rfl | rfl
  · have e : imm = 0 := by simpa [immB] using p5
    have e' : imm' = 0 := by simpa [immB] using q5
    exact ⟨(partB_n p1).trans (partB_n q1).symm, (partB_n p2).trans (partB_n q2).symm, (partB_n p3).trans (partB_n q3).symm, e.trans e'.symm, (partB_n p4).trans (partB_n q4).symm⟩
  · have er : (32 : UInt8) :: 120 :: (numL rd ++ 44 :: 32 :: numL (imm / 4096)) = 32 :: 120 :: (numL rd' ++ 44 :: 32 :: numL (imm' / 4096)) := er
    obtain ⟨g1, g2⟩ := num_cut 44 no44 b1 c1 (List.cons.inj (List.cons.inj er).2).2
    have g3 := numL_inj d1 d2 (List.cons.inj g2).2
    have e : imm % 4096 = 0 := by simpa [immB] using p5
    have e' : imm' % 4096 = 0 := by simpa [immB] using q5
    exact ⟨g1, (partB_n p2).trans (partB_n q2).symm, (partB_n p3).trans (partB_n q3).symm, by omega, (partB_n p4).trans (partB_n q4).symm⟩
  · have er : (32 : UInt8) :: 120 :: (numL rd ++ 44 :: 32 :: numL (signedOf imm)) = 32 :: 120 :: (numL rd' ++ 44 :: 32 :: numL (signedOf imm')) := er
    obtain ⟨g1, g2⟩ := num_cut 44 no44 b1 c1 (List.cons.inj (List.cons.inj er).2).2
    exact ⟨g1, (partB_n p2).trans (partB_n q2).symm, (partB_n p3).trans (partB_n q3).symm, SI (numL_inj s1 s2 (List.cons.inj g2).2), (partB_n p4).trans (partB_n q4).symm⟩
  · by_cases hk15 : k ≤ 15
    · simp only [hk15, if_true] at er
      have er : (32 : UInt8) :: 120 :: (numL rd ++ 44 :: 32 :: (numL (signedOf imm) ++ 40 :: 120 :: (numL rs1 ++ 41 :: []))) = 32 :: 120 :: (numL rd' ++ 44 :: 32 :: (numL (signedOf imm') ++ 40 :: 120 :: (numL rs1' ++ 41 :: []))) := er
      obtain ⟨g1, g2⟩ := num_cut 44 no44 b1 c1 (List.cons.inj (List.cons.inj er).2).2
      obtain ⟨g3, g4⟩ := num_cut 40 no40 s1 s2 (List.cons.inj g2).2
      obtain ⟨g5, _⟩ := num_cut 41 no41 b2 c2 (List.cons.inj g4).2
      exact ⟨g1, g5, (partB_n p3).trans (partB_n q3).symm, SI g3, (partB_n p4).trans (partB_n q4).symm⟩
    · simp only [hk15, if_false] at er
      have er : (32 : UInt8) :: 120 :: (numL rd ++ 44 :: 32 :: 120 :: (numL rs1 ++ 44 :: 32 :: numL (signedOf imm))) = 32 :: 120 :: (numL rd' ++ 44 :: 32 :: 120 :: (numL rs1' ++ 44 :: 32 :: numL (signedOf imm'))) := er
      obtain ⟨g1, g2⟩ := num_cut 44 no44 b1 c1 (List.cons.inj (List.cons.inj er).2).2
      obtain ⟨g3, g4⟩ := num_cut 44 no44 b2 c2 (List.cons.inj (List.cons.inj g2).2).2
      exact ⟨g1, g3, (partB_n p3).trans (partB_n q3).symm, SI (numL_inj s1 s2 (List.cons.inj g4).2), (partB_n p4).trans (partB_n q4).symm⟩
  · have er : (32 : UInt8) :: 120 :: (numL rs1 ++ 44 :: 32 :: 120 :: (numL rs2 ++ 44 :: 32 :: numL (signedOf imm))) = 32 :: 120 :: (numL rs1' ++ 44 :: 32 :: 120 :: (numL rs2' ++ 44 :: 32 :: numL (signedOf imm'))) := er
    obtain ⟨g1, g2⟩ := num_cut 44 no44 b2 c2 (List.cons.inj (List.cons.inj er).2).2
    obtain ⟨g3, g4⟩ := num_cut 44 no44 b3 c3 (List.cons.inj (List.cons.inj g2).2).2
    exact ⟨(partB_n p1).trans (partB_n q1).symm, g1, g3, SI (numL_inj s1 s2 (List.cons.inj g4).2), (partB_n p4).trans (partB_n q4).symm⟩
  · have er : (32 : UInt8) :: 120 :: (numL rs2 ++ 44 :: 32 :: (numL (signedOf imm) ++ 40 :: 120 :: (numL rs1 ++ 41 :: []))) = 32 :: 120 :: (numL rs2' ++ 44 :: 32 :: (numL (signedOf imm') ++ 40 :: 120 :: (numL rs1' ++ 41 :: []))) := er
    obtain ⟨g1, g2⟩ := num_cut 44 no44 b3 c3 (List.cons.inj (List.cons.inj er).2).2
    obtain ⟨g3, g4⟩ := num_cut 40 no40 s1 s2 (List.cons.inj g2).2
    obtain ⟨g5, _⟩ := num_cut 41 no41 b2 c2 (List.cons.inj g4).2
    exact ⟨(partB_n p1).trans (partB_n q1).symm, g5, g1, SI g3, (partB_n p4).trans (partB_n q4).symm⟩
  · have er : (32 : UInt8) :: 120 :: (numL rd ++ 44 :: 32 :: 120 :: (numL rs1 ++ 44 :: 32 :: 120 :: numL rs2)) = 32 :: 120 :: (numL rd' ++ 44 :: 32 :: 120 :: (numL rs1' ++ 44 :: 32 :: 120 :: numL rs2')) := er
    obtain ⟨g1, g2⟩ := num_cut 44 no44 b1 c1 (List.cons.inj (List.cons.inj er).2).2
    obtain ⟨g3, g4⟩ := num_cut 44 no44 b2 c2 (List.cons.inj (List.cons.inj g2).2).2
    have e : imm = 0 := by simpa [immB] using p5
    have e' : imm' = 0 := by simpa [immB] using q5
    exact ⟨g1, g3, numL_inj b3 c3 (List.cons.inj (List.cons.inj g4).2).2, e.trans e'.symm, (partB_n p4).trans (partB_n q4).symm⟩
  · have er : (32 : UInt8) :: 120 :: (numL rd ++ 44 :: 32 :: 120 :: (numL rs1 ++ 44 :: 32 :: numL (signedOf imm))) = 32 :: 120 :: (numL rd' ++ 44 :: 32 :: 120 :: (numL rs1' ++ 44 :: 32 :: numL (signedOf imm'))) := er
    obtain ⟨g1, g2⟩ := num_cut 44 no44 b1 c1 (List.cons.inj (List.cons.inj er).2).2
    obtain ⟨g3, g4⟩ := num_cut 44 no44 b2 c2 (List.cons.inj (List.cons.inj g2).2).2
    exact ⟨g1, g3, (partB_n p3).trans (partB_n q3).symm, SI (numL_inj s1 s2 (List.cons.inj g4).2), (partB_n p4).trans (partB_n q4).symm⟩
  · have er : (32 : UInt8) :: 120 :: (numL rd ++ 44 :: 32 :: (numL csr ++ 44 :: 32 :: 120 :: numL rs1)) = 32 :: 120 :: (numL rd' ++ 44 :: 32 :: (numL csr' ++ 44 :: 32 :: 120 :: numL rs1')) := er
    obtain ⟨g1, g2⟩ := num_cut 44 no44 b1 c1 (List.cons.inj (List.cons.inj er).2).2
    obtain ⟨g3, g4⟩ := num_cut 44 no44 b4 c4 (List.cons.inj g2).2
    have e : imm = 0 := by simpa [immB] using p5
    have e' : imm' = 0 := by simpa [immB] using q5
    exact ⟨g1, numL_inj b2 c2 (List.cons.inj (List.cons.inj g4).2).2, (partB_n p3).trans (partB_n q3).symm, e.trans e'.symm, g3⟩
  · have er : (32 : UInt8) :: 120 :: (numL rd ++ 44 :: 32 :: (numL csr ++ 44 :: 32 :: numL (signedOf imm))) = 32 :: 120 :: (numL rd' ++ 44 :: 32 :: (numL csr' ++ 44 :: 32 :: numL (signedOf imm'))) := er
    obtain ⟨g1, g2⟩ := num_cut 44 no44 b1 c1 (List.cons.inj (List.cons.inj er).2).2
    obtain ⟨g3, g4⟩ := num_cut 44 no44 b4 c4 (List.cons.inj g2).2
    exact ⟨g1, (partB_n p2).trans (partB_n q2).symm, (partB_n p3).trans (partB_n q3).symm, SI (numL_inj s1 s2 (List.cons.inj g4).2), g3⟩
end Go.Proofs.YthgolbmngjdbeaaGreatDoor

/- Layer 6: pieces, numbers and registers of texts, as lists of signs. No program in sight. -/
namespace Go.Proofs.YthgolbmngjdbeaaGreatDoor
open Go.RowKit
set_option linter.unusedVariables false

/-- A sign's kind: 0 wrong, 1 a blank, 2 a mark, 3 in a piece, 4 the beginning of a remark. -/
def skind (n : Int) : Int :=
  if n = 32 ∨ n = 9 then 1
  else if n = 44 ∨ n = 40 ∨ n = 41 ∨ n = 58 then 2
  else if (97 ≤ n ∧ n ≤ 122) ∨ (65 ≤ n ∧ n ≤ 90) ∨ (48 ≤ n ∧ n ≤ 57) ∨ n = 95 ∨ n = 46 ∨ n = 45 then 3
  else if n = 35 then 4 else 0
def ck (c : UInt8) : Int := skind (c.toNat : Int)
theorem skind_vals (n : Int) : skind n = 0 ∨ skind n = 1 ∨ skind n = 2 ∨ skind n = 3 ∨ skind n = 4 := by
  unfold skind
  repeat' split
  all_goals simp

def flushP (out : List (List UInt8)) (p : List UInt8) : List (List UInt8) := if p = [] then out else out ++ [p]
/-- The pieces of what is left, behind pieces that are cut and one that is begun; none: a wrong sign. -/
def pcs : List UInt8 → List (List UInt8) → List UInt8 → Option (List (List UInt8))
  | [], out, p => some (flushP out p)
  | c :: r, out, p =>
    if ck c = 3 then pcs r out (p ++ [c])
    else if ck c = 0 then none
    else if ck c = 4 then some (flushP out p)
    else if ck c = 2 then pcs r (flushP out p ++ [ [c] ]) []
    else pcs r (flushP out p) []
def piecesL (l : List UInt8) : Option (List (List UInt8)) := pcs l [] []

/-- One to ten decimal digits; -1: they are none. -/
def isDg (c : UInt8) : Bool := decide (48 ≤ c.toNat ∧ c.toNat ≤ 57)
def digN (l : List UInt8) : Int := if 1 ≤ l.length ∧ l.length ≤ 10 ∧ l.all isDg = true then (valL l : Int) else -1
theorem fold_lt : ∀ (l : List UInt8) (a : Nat), l.all isDg = true → l.foldl (fun a c => a * 10 + (c.toNat - 48)) a < (a + 1) * 10 ^ l.length
  | [], a, _ => by simp
  | c :: r, a, h => by
    simp only [List.all_cons, Bool.and_eq_true] at h
    have hc : c.toNat - 48 ≤ 9 := by
      have := of_decide_eq_true h.1; omega
    have ih := fold_lt r (a * 10 + (c.toNat - 48)) h.2
    simp only [List.foldl_cons, List.length_cons, Nat.pow_succ]
    refine Nat.lt_of_lt_of_le ih ?_
    have : a * 10 + (c.toNat - 48) + 1 ≤ (a + 1) * 10 := by omega
    calc (a * 10 + (c.toNat - 48) + 1) * 10 ^ r.length ≤ (a + 1) * 10 * 10 ^ r.length := Nat.mul_le_mul_right _ this
      _ = (a + 1) * (10 ^ r.length * 10) := by rw [Nat.mul_assoc, Nat.mul_comm 10]
theorem valL_lt (l : List UInt8) (h : l.all isDg = true) : valL l < 10 ^ l.length := by
  have := fold_lt l 0 h
  simpa [valL] using this

/-- A register's number; -1: it is none. -/
def regN (l : List UInt8) : Int :=
  if l.length < 2 ∨ 3 < l.length ∨ l.getD 0 0 ≠ 120 then -1
  else if 31 < digN (l.drop 1) ∨ (l.length = 3 ∧ l.getD 1 0 = 48) then -1 else digN (l.drop 1)
/-- Is a piece a name? -/
def nameB (l : List UInt8) : Bool := match l with
  | [] => false
  | c :: _ => decide ((97 ≤ c.toNat ∧ c.toNat ≤ 122) ∨ (65 ≤ c.toNat ∧ c.toNat ≤ 90) ∨ c.toNat = 95)
end Go.Proofs.YthgolbmngjdbeaaGreatDoor

/- What word.Hex answers: eight digits, the highest first; it makes memory of its own and turns none that was there. -/
namespace Go.Proofs.YthgolbmngjdbeaaGreatDoor
open Go.RowKit
set_option linter.unusedVariables false

/-- The sign of a digit from 0 to 15. -/
def hexDig (d : Int) : Int := if d < 10 then 48 + d else 87 + d
/-- The i-th digit of x, the highest first. -/
def hexAt (x : Int) (i : Nat) : Int := hexDig (bitsOf x (28 - 4 * i) 4)
/-- The first k digits of x. -/
def hexTo (x : Int) (k : Nat) : List Int := (List.range k).map (hexAt x)

theorem hexTo_succ (x : Int) (k : Nat) : hexTo x (k + 1) = hexTo x k ++ [hexAt x k] := by
  unfold hexTo; rw [List.range_succ, List.map_append]; rfl
theorem hexTo_len (x : Int) (k : Nat) : (hexTo x k).length = k := by simp [hexTo]

theorem hexStep (x : Int) (k : Nat) (h0 : 0 ≤ x) (h1 : x < 4294967296) (hk : k < 8) :
    ∃ D : Int, bits .and .u32 (x / 2 ^ (28 - 4 * k)) 15 = D ∧ Hid (D = bitsOf x (28 - 4 * k) 4) ∧ 0 ≤ D ∧ D < 16 := by
  have e : (x / 2 ^ (28 - 4 * k) : Int) = x / pw (28 - 4 * k) := by
    unfold pw; rw [show (28 - 4 * (k : Int)).toNat = 28 - 4 * k from by omega]
  have d := div_pw x (28 - 4 * k) h0 h1
  have a := and_low (x / pw (28 - 4 * k)) 4 d.1 d.2 (by omega) (by omega)
  have p : pw 4 = 16 := by decide
  rw [p] at a
  refine ⟨bitsOf x (28 - 4 * k) 4, ?_, rfl, bitsOf_nn _ _ _, ?_⟩
  · rw [e]; unfold bitsOf; rw [p]; exact a
  · have := bitsOf_lt x (28 - 4 * k) 4; rw [p] at this; exact this

theorem digTab (D : Int) (h0 : 0 ≤ D) (h1 : D < 16) : ∀ h : D.toNat < (ByteArray.mk #[48, 49, 50, 51, 52, 53, 54, 55, 56, 57, 97, 98, 99, 100, 101, 102]).size,
    (((ByteArray.mk #[48, 49, 50, 51, 52, 53, 54, 55, 56, 57, 97, 98, 99, 100, 101, 102])[D.toNat]'h).toNat : Int) = hexDig D := by
  have hn : D = 0 ∨ D = 1 ∨ D = 2 ∨ D = 3 ∨ D = 4 ∨ D = 5 ∨ D = 6 ∨ D = 7 ∨ D = 8 ∨ D = 9 ∨ D = 10 ∨ D = 11 ∨ D = 12 ∨ D = 13 ∨ D = 14 ∨ D = 15 := by omega
  rcases hn with rfl | rfl | rfl | rfl | rfl | rfl | rfl | rfl | rfl | rfl | rfl | rfl | rfl | rfl | rfl | rfl <;> (intro h; rfl)
theorem Tryz.info5 : (Tryz.prog.info? 5).map (fun i => (i.zero, i.size, i.bytes)) = some (some (.int .u8 0), 1, 1) := by kernel_rfl

end Go.Proofs.YthgolbmngjdbeaaGreatDoor

/- What layer 1's functions on digits do: digit, Unhex, and the document's own Digit, Unhex, Hex. -/
namespace Go.Proofs.YthgolbmngjdbeaaGreatDoor
open Go.RowKit
set_option linter.unusedVariables false

/-- A sign's number as a digit; -1: it is none. -/
def digVal (c : Int) : Int := if 48 ≤ c ∧ c ≤ 57 then c - 48 else if 97 ≤ c ∧ c ≤ 102 then c - 87 else if 65 ≤ c ∧ c ≤ 70 then c - 55 else -1

theorem ret_ib {k : IntKind} {a b : Int} {c : Bool} (h : a = b) : Ending.returned (.tuple #[.int k a, .bool c]) = .returned (.tuple #[.int k b, .bool c]) := by rw [h]

set_option maxHeartbeats 400000 in
theorem digit_yes (c : Int) (w : World) (h0 : 0 ≤ c) (h1 : c < 256) (h : 0 ≤ digVal c) :
    Calls Tryz.prog 104 #[.int .u8 c] w fun e w' => e = .returned (.tuple #[.int .u32 (digVal c), .bool true]) ∧ w' = w := by
  have H : Hid (0 ≤ digVal c) := h
  clear h
  by_cases a : 48 ≤ c ∧ c ≤ 57
  · have e : Hid (digVal c = c - 48) := by unfold digVal; rw [if_pos a]; rfl
    obtain ⟨a1, a2⟩ := a
    go_enter Tryz.func104, Tryz.ntmps104
    go_wp2
    go_ret2
    exact ⟨ret_ib e.out.symm, rfl⟩
  · by_cases b : 97 ≤ c ∧ c ≤ 102
    · have e : Hid (digVal c = c - 97 + 10) := by unfold digVal; rw [if_neg a, if_pos b]; show c - 87 = c - 97 + 10; omega
      obtain ⟨b1, b2⟩ := b
      have a1 : 48 ≤ c := by omega
      have a2 : ¬ c ≤ 57 := by omega
      clear a
      go_enter Tryz.func104, Tryz.ntmps104
      go_wp2
      go_ret2
      exact ⟨ret_ib e.out.symm, rfl⟩
    · by_cases d : 65 ≤ c ∧ c ≤ 70
      · have e : Hid (digVal c = c - 65 + 10) := by unfold digVal; rw [if_neg a, if_neg b, if_pos d]; show c - 55 = c - 65 + 10; omega
        obtain ⟨d1, d2⟩ := d
        have a1 : 48 ≤ c := by omega
        have a2 : ¬ c ≤ 57 := by omega
        have b1 : ¬ 97 ≤ c := by omega
        clear a b
        go_enter Tryz.func104, Tryz.ntmps104
        go_wp2
        go_ret2
        exact ⟨ret_ib e.out.symm, rfl⟩
      · exfalso
        have := H.out
        unfold digVal at this
        rw [if_neg a, if_neg b, if_neg d] at this
        omega

set_option maxHeartbeats 400000 in
theorem digit_no (c : Int) (w : World) (h0 : 0 ≤ c) (h1 : c < 256) (h : digVal c < 0) :
    Calls Tryz.prog 104 #[.int .u8 c] w fun e w' => e = .returned (.tuple #[.int .u32 0, .bool false]) ∧ w' = w := by
  have a : ¬ (48 ≤ c ∧ c ≤ 57) := fun a => by unfold digVal at h; rw [if_pos a] at h; omega
  have b : ¬ (97 ≤ c ∧ c ≤ 102) := fun b => by unfold digVal at h; rw [if_neg a, if_pos b] at h; omega
  have d : ¬ (65 ≤ c ∧ c ≤ 70) := fun d => by unfold digVal at h; rw [if_neg a, if_neg b, if_pos d] at h; omega
  clear h
  rcases (show c < 48 ∨ (57 < c ∧ c < 65) ∨ (70 < c ∧ c < 97) ∨ 102 < c by omega) with g | ⟨g, g'⟩ | ⟨g, g'⟩ | g
  all_goals
    clear a b d
    go_enter Tryz.func104, Tryz.ntmps104
    go_wp2
    go_ret2
    exact ⟨rfl, rfl⟩

set_option maxHeartbeats 400000 in
theorem rdigit_any (c : Int) (w : World) (h0 : 0 ≤ c) (h1 : c < 256) :
    Calls Tryz.prog 82 #[.int .u8 c] w fun e w' => e = .returned (.int .i64 (digVal c)) ∧ w' = w := by
  rcases (show c < 48 ∨ (48 ≤ c ∧ c ≤ 57) ∨ (57 < c ∧ c < 65) ∨ (65 ≤ c ∧ c ≤ 70) ∨ (70 < c ∧ c < 97) ∨ (97 ≤ c ∧ c ≤ 102) ∨ 102 < c by omega) with g | ⟨g, g'⟩ | ⟨g, g'⟩ | ⟨g, g'⟩ | ⟨g, g'⟩ | ⟨g, g'⟩ | g
  all_goals
    go_enter Tryz.func82, Tryz.ntmps82
    go_wp2
    go_ret
    refine ⟨ret_int ?_, rfl⟩
    unfold digVal
    (repeat' split) <;> omega

/-- The sign at place i of a text. -/
def signAt (s : ByteArray) (i : Nat) : Int := ((s.data[i]?.getD 0).toNat : Int)
theorem signAt_bd (s : ByteArray) (i : Nat) : 0 ≤ signAt s i ∧ signAt s i < 256 := by
  unfold signAt; have := (s.data[i]?.getD 0).toNat_lt; omega
theorem sign_form (s : ByteArray) (k : Nat) : ∀ h : k < s.size, (((s[k]'h).toNat : Nat) : Int) = signAt s k := by
  intro h
  have h' : k < s.data.size := h
  unfold signAt
  rw [Array.getElem?_eq_getElem h']
  rfl

/-- The number of the first k digits. -/
def valTo (f : Nat → Int) : Nat → Int
  | 0 => 0
  | k + 1 => valTo f k * 16 + digVal (f k)

theorem digVal_lt (c : Int) : digVal c < 16 := by unfold digVal; (repeat' split) <;> omega

theorem valTo_bd (f : Nat → Int) : ∀ k : Nat, (∀ i, i < k → 0 ≤ digVal (f i)) → 0 ≤ valTo f k ∧ valTo f k < pw (4 * k)
  | 0, _ => by simp [valTo, pw]
  | k + 1, h => by
    have ih := valTo_bd f k (fun i hi => h i (by omega))
    have hk := h k (by omega)
    have hl := digVal_lt (f k)
    have e : pw (4 * ((k + 1 : Nat) : Int)) = 16 * pw (4 * k) := by
      rw [show (4 * ((k + 1 : Nat) : Int)) = 4 + 4 * (k : Int) from by omega, pw_add _ _ (by omega) (by omega)]; rfl
    rw [e]
    unfold valTo
    omega

theorem val_join (acc d : Int) (a0 : 0 ≤ acc) (a1 : acc < 268435456) (d0 : 0 ≤ d) (d1 : d < 16) : bits .or .u32 (acc * 16) d = acc * 16 + d := by
  obtain ⟨A, rfl⟩ := Int.eq_ofNat_of_zero_le a0
  obtain ⟨D, rfl⟩ := Int.eq_ofNat_of_zero_le d0
  rw [show ((A : Int) * 16) = ((A * 16 : Nat) : Int) from by simp]
  rw [u32_or_nat (A * 16) D (by omega) (by omega), nat_join 4 (A * 16) D (by omega) (by omega)]
  simp

set_option maxHeartbeats 400000 in
theorem unhex_short (s : ByteArray) (w : World) (hs : s.size ≤ maxLen) (h : s.size < 1 ∨ 8 < s.size) :
    Calls Tryz.prog 96 #[.string s] w fun e w' => e = .returned (.tuple #[.int .u32 0, .int .i64 1]) ∧ w' = w := by
  unfold maxLen at hs
  rcases h with h | h
  all_goals
    go_enter Tryz.func96, Tryz.ntmps96
    go_wp2
    go_ret2
    exact ⟨rfl, rfl⟩

set_option maxHeartbeats 400000 in
theorem unhex_yes (s : ByteArray) (w : World) (h0 : 1 ≤ s.size) (h8 : s.size ≤ 8) (hd : ∀ i, i < s.size → 0 ≤ digVal (signAt s i)) :
    Calls Tryz.prog 96 #[.string s] w fun e w' => e = .returned (.tuple #[.int .u32 (valTo (signAt s) s.size), .int .i64 0]) ∧ w' = w := by
  have HD : Hid (∀ i, i < s.size → 0 ≤ digVal (signAt s i)) := hd
  clear hd
  go_enter Tryz.func96, Tryz.ntmps96
  go_wp2
  go_loop [4, 18] (fun t i => ∃ k : Nat, k ≤ s.size ∧ i = .int .i64 k ∧ t = .int .u32 (valTo (signAt s) k)) (fun _ i => s.size - (intOf i).toNat)
  case atStart => exact ⟨0, Nat.zero_le _, rfl, rfl⟩
  case round =>
    obtain ⟨k, hk, rfl, rfl⟩ := hrel
    by_cases hlt : k < s.size
    · have hsf := sign_form s k
      obtain ⟨n0, n1⟩ := valTo_bd (signAt s) k (fun i hi => HD.out i (by omega))
      have n2 := pw_le (4 * k) 28 (by omega)
      rw [show pw 28 = 268435456 from by decide] at n2
      have d0 := HD.out k hlt
      have d1 := digVal_lt (signAt s k)
      obtain ⟨b0, b1⟩ := signAt_bd s k
      have hj : Hid (bits .or .u32 (valTo (signAt s) k * 16) (digVal (signAt s k)) = valTo (signAt s) k * 16 + digVal (signAt s k)) := val_join _ _ n0 (by omega) d0 d1
      go_wp2_with (go_at_call 104; refine (digit_yes _ _ b0 b1 d0).mono ?_; rintro e w' ⟨rfl, hw⟩; have hw := hw.symm; subst hw)
      go_round
      case rel => exact ⟨k + 1, by omega, by go_num, by rw [hj.out]; rfl⟩
      case measure => simp [intOf]; omega
    · obtain rfl : k = s.size := by omega
      go_wp2
      go_ret2
      exact ⟨rfl, rfl⟩
set_option maxHeartbeats 400000 in
theorem unhex_bad (s : ByteArray) (w : World) (h0 : 1 ≤ s.size) (h8 : s.size ≤ 8) (j : Nat) (hjs : j < s.size) (hd : digVal (signAt s j) < 0) :
    Calls Tryz.prog 96 #[.string s] w fun e w' => e = .returned (.tuple #[.int .u32 0, .int .i64 1]) ∧ w' = w := by
  have HD : Hid (digVal (signAt s j) < 0) := hd
  clear hd
  go_enter Tryz.func96, Tryz.ntmps96
  go_wp2
  go_loop [2, 3, 4, 18] (fun _ _ t i => ∃ k : Nat, k ≤ s.size ∧ i = .int .i64 k ∧ t = .int .u32 (valTo (signAt s) k) ∧ Hid (∀ i, i < k → 0 ≤ digVal (signAt s i))) (fun _ _ _ i => s.size - (intOf i).toNat)
  case atStart => exact ⟨0, Nat.zero_le _, rfl, rfl, fun i hi => absurd hi (Nat.not_lt_zero i)⟩
  case round =>
    obtain ⟨k, hk, rfl, rfl, HG⟩ := hrel
    by_cases hlt : k < s.size
    · have hsf := sign_form s k
      obtain ⟨n0, n1⟩ := valTo_bd (signAt s) k (fun i hi => HG.out i hi)
      have n2 := pw_le (4 * k) 28 (by omega)
      rw [show pw 28 = 268435456 from by decide] at n2
      have d1 := digVal_lt (signAt s k)
      obtain ⟨b0, b1⟩ := signAt_bd s k
      by_cases d0 : 0 ≤ digVal (signAt s k)
      · have hj : Hid (bits .or .u32 (valTo (signAt s) k * 16) (digVal (signAt s k)) = valTo (signAt s) k * 16 + digVal (signAt s k)) := val_join _ _ n0 (by omega) d0 d1
        go_wp2_with (go_at_call 104; refine (digit_yes _ _ b0 b1 d0).mono ?_; rintro e w' ⟨rfl, hw⟩; have hw := hw.symm; subst hw)
        go_round
        case rel => exact ⟨k + 1, by omega, by go_num, by rw [hj.out]; rfl, fun i hi => by
          by_cases hik : i = k
          · rw [hik]; exact d0
          · exact HG.out i (by omega)⟩
        case measure => simp [intOf]; omega
      · have d0' : digVal (signAt s k) < 0 := by omega
        go_wp2_with (go_at_call 104; refine (digit_no _ _ b0 b1 d0').mono ?_; rintro e w' ⟨rfl, hw⟩; have hw := hw.symm; subst hw)
        go_ret2
        exact ⟨rfl, rfl⟩
    · exfalso
      have := HG.out j (by omega)
      have := HD.out
      omega

set_option maxHeartbeats 400000 in
theorem runhex_short (s : ByteArray) (w : World) (hs : s.size ≤ maxLen) (h : s.size < 1 ∨ 8 < s.size) :
    Calls Tryz.prog 55 #[.string s] w fun e w' => e = .returned (.tuple #[.int .u32 0, .bool false]) ∧ w' = w := by
  unfold maxLen at hs
  rcases h with h | h
  all_goals
    go_enter Tryz.func55, Tryz.ntmps55
    go_wp2
    go_ret2
    exact ⟨rfl, rfl⟩

set_option maxHeartbeats 400000 in
set_option maxRecDepth 100000 in
theorem runhex_yes (s : ByteArray) (w : World) (h0 : 1 ≤ s.size) (h8 : s.size ≤ 8) (hd : ∀ i, i < s.size → 0 ≤ digVal (signAt s i)) :
    Calls Tryz.prog 55 #[.string s] w fun e w' => e = .returned (.tuple #[.int .u32 (valTo (signAt s) s.size), .bool true]) ∧ w' = w := by
  have HD : Hid (∀ i, i < s.size → 0 ≤ digVal (signAt s i)) := hd
  clear hd
  go_enter Tryz.func55, Tryz.ntmps55
  go_wp2
  go_loop [4, 5] (fun t i => ∃ k : Nat, k ≤ s.size ∧ i = .int .i64 k ∧ t = .int .u64 (valTo (signAt s) k)) (fun _ i => s.size - (intOf i).toNat)
  case atStart => exact ⟨0, Nat.zero_le _, rfl, rfl⟩
  case round =>
    obtain ⟨k, hk, rfl, rfl⟩ := hrel
    obtain ⟨n0, n1⟩ := valTo_bd (signAt s) k (fun i hi => HD.out i (by omega))
    have n2 := pw_le (4 * k) 32 (by omega)
    rw [pw_32] at n2
    by_cases hlt : k < s.size
    · have hsf := sign_form s k
      have d0 := HD.out k hlt
      have d1 := digVal_lt (signAt s k)
      obtain ⟨b0, b1⟩ := signAt_bd s k
      go_wp2_with (go_at_call 82; refine (rdigit_any _ _ b0 b1).mono ?_; rintro e w' ⟨rfl, hw⟩; have hw := hw.symm; subst hw)
      go_round
      case rel => exact ⟨k + 1, by omega, by go_num, rfl⟩
      case measure => simp [intOf]; omega
    · obtain rfl : k = s.size := by omega
      go_wp2
      go_ret2
      exact ⟨rfl, rfl⟩

set_option maxHeartbeats 400000 in
set_option maxRecDepth 100000 in
theorem runhex_bad (s : ByteArray) (w : World) (h0 : 1 ≤ s.size) (h8 : s.size ≤ 8) (j : Nat) (hjs : j < s.size) (hd : digVal (signAt s j) < 0) :
    Calls Tryz.prog 55 #[.string s] w fun e w' => e = .returned (.tuple #[.int .u32 0, .bool false]) ∧ w' = w := by
  have HD : Hid (digVal (signAt s j) < 0) := hd
  clear hd
  go_enter Tryz.func55, Tryz.ntmps55
  go_wp2
  go_loop [2, 3, 4, 5] (fun _ _ t i => ∃ k : Nat, k ≤ s.size ∧ i = .int .i64 k ∧ t = .int .u64 (valTo (signAt s) k) ∧ Hid (∀ i, i < k → 0 ≤ digVal (signAt s i))) (fun _ _ _ i => s.size - (intOf i).toNat)
  case atStart => exact ⟨0, Nat.zero_le _, rfl, rfl, fun i hi => absurd hi (Nat.not_lt_zero i)⟩
  case round =>
    obtain ⟨k, hk, rfl, rfl, HG⟩ := hrel
    by_cases hlt : k < s.size
    · have hsf := sign_form s k
      obtain ⟨n0, n1⟩ := valTo_bd (signAt s) k (fun i hi => HG.out i hi)
      have n2 := pw_le (4 * k) 28 (by omega)
      rw [show pw 28 = 268435456 from by decide] at n2
      have d1 := digVal_lt (signAt s k)
      obtain ⟨b0, b1⟩ := signAt_bd s k
      by_cases d0 : 0 ≤ digVal (signAt s k)
      · go_wp2_with (go_at_call 82; refine (rdigit_any _ _ b0 b1).mono ?_; rintro e w' ⟨rfl, hw⟩; have hw := hw.symm; subst hw)
        go_round
        case rel => exact ⟨k + 1, by omega, by go_num, rfl, fun i hi => by
          by_cases hik : i = k
          · rw [hik]; exact d0
          · exact HG.out i (by omega)⟩
        case measure => simp [intOf]; omega
      · go_wp2_with (go_at_call 82; refine (rdigit_any _ _ b0 b1).mono ?_; rintro e w' ⟨rfl, hw⟩; have hw := hw.symm; subst hw)
        go_ret2
        exact ⟨rfl, rfl⟩
    · exfalso
      have := HG.out j (by omega)
      have := HD.out
      omega

theorem strOfNums_app (a b : List Int) : strOfNums (a ++ b) = strOfNums a ++ strOfNums b := by
  apply ByteArray.ext
  simp [strOfNums]
theorem digCut (D : Int) (h0 : 0 ≤ D) (h1 : D < 16) : (ByteArray.mk #[48, 49, 50, 51, 52, 53, 54, 55, 56, 57, 97, 98, 99, 100, 101, 102]).extract D.toNat (D + 1).toNat = strOfNums [hexDig D] := by
  have hn : D = 0 ∨ D = 1 ∨ D = 2 ∨ D = 3 ∨ D = 4 ∨ D = 5 ∨ D = 6 ∨ D = 7 ∨ D = 8 ∨ D = 9 ∨ D = 10 ∨ D = 11 ∨ D = 12 ∨ D = 13 ∨ D = 14 ∨ D = 15 := by omega
  rcases hn with rfl | rfl | rfl | rfl | rfl | rfl | rfl | rfl | rfl | rfl | rfl | rfl | rfl | rfl | rfl | rfl <;> decide

end Go.Proofs.YthgolbmngjdbeaaGreatDoor

/- Layer 6: the document's own kind and Pieces. -/
namespace Go.Proofs.YthgolbmngjdbeaaGreatDoor
open Go.RowKit
set_option linter.unusedVariables false

set_option maxHeartbeats 2000000 in
theorem rkind_any (c : Int) (w : World) (h0 : 0 ≤ c) (h1 : c < 256) :
    Calls Tryz.prog 25 #[.int .u8 c] w fun e w' => e = .returned (.int .i64 (skind c)) ∧ w' = w := by
  by_cases hs : c = 9 ∨ c = 32 ∨ c = 35 ∨ c = 40 ∨ c = 41 ∨ c = 44 ∨ c = 45 ∨ c = 46 ∨ c = 58 ∨ c = 95
  · rcases hs with rfl | rfl | rfl | rfl | rfl | rfl | rfl | rfl | rfl | rfl
    all_goals
      go_enter Tryz.func25, Tryz.ntmps25
      go_wp2
      go_ret
      exact ⟨rfl, rfl⟩
  · have e9 : (c == 9) = false := by simp; omega
    have e32 : (c == 32) = false := by simp; omega
    have e35 : (c == 35) = false := by simp; omega
    have e40 : (c == 40) = false := by simp; omega
    have e41 : (c == 41) = false := by simp; omega
    have e44 : (c == 44) = false := by simp; omega
    have e45 : (c == 45) = false := by simp; omega
    have e46 : (c == 46) = false := by simp; omega
    have e58 : (c == 58) = false := by simp; omega
    have e95 : (c == 95) = false := by simp; omega
    have HS : Hid (skind c = if (97 ≤ c ∧ c ≤ 122) ∨ (65 ≤ c ∧ c ≤ 90) ∨ (48 ≤ c ∧ c ≤ 57) then 3 else 0) := by
      show skind c = _
      unfold skind
      repeat' split
      all_goals omega
    clear hs
    rcases (show c < 48 ∨ (48 ≤ c ∧ c ≤ 57) ∨ (57 < c ∧ c < 65) ∨ (65 ≤ c ∧ c ≤ 90) ∨ (90 < c ∧ c < 97) ∨ (97 ≤ c ∧ c ≤ 122) ∨ 122 < c by omega) with g | ⟨g, g'⟩ | ⟨g, g'⟩ | ⟨g, g'⟩ | ⟨g, g'⟩ | ⟨g, g'⟩ | g
    all_goals
      go_enter Tryz.func25, Tryz.ntmps25
      go_wp2
      go_ret
      refine ⟨ret_int ?_, rfl⟩
      rw [HS.out]
      split <;> omega

def sV (l : List UInt8) : Value := .string (bs l)
theorem pcs_step (l : List UInt8) (k : Nat) (hk : k < l.length) (ol : List (List UInt8)) (pl : List UInt8) : pcs (l.drop k) ol pl =
    if ck (l.getD k 0) = 3 then pcs (l.drop (k + 1)) ol (pl ++ [l.getD k 0])
    else if ck (l.getD k 0) = 0 then none
    else if ck (l.getD k 0) = 4 then some (flushP ol pl)
    else if ck (l.getD k 0) = 2 then pcs (l.drop (k + 1)) (flushP ol pl ++ [ [l.getD k 0] ]) []
    else pcs (l.drop (k + 1)) (flushP ol pl) [] := by
  have e : l.drop k = l.getD k 0 :: l.drop (k + 1) := by
    rw [List.drop_eq_getElem_cons hk]
    simp [List.getD, hk]
  rw [e]
  rfl
theorem flush_nil (ol : List (List UInt8)) : flushP ol [] = ol := rfl
theorem flush_one (ol : List (List UInt8)) {pl : List UInt8} (h : pl ≠ []) : flushP ol pl = ol ++ [pl] := by simp [flushP, h]
theorem sign_ck (s : ByteArray) (k : Nat) (hk : k < s.size) : skind (signAt s k) = ck (s.data.toList.getD k 0) := by
  unfold ck signAt
  simp [List.getD]
theorem cut_one (s : ByteArray) (k : Nat) (hk : k < s.size) : s.extract k (k + 1) = bs [s.data.toList.getD k 0] := by
  have h : k < s.data.size := hk
  apply ByteArray.ext
  rw [ByteArray.data_extract]
  apply Array.ext
  · simp [bs]; omega
  · intro i h1 h2
    have e : i = 0 := by simp [bs] at h2; exact h2
    subst e
    simp [bs]
    rw [Array.getElem?_eq_getElem h]; rfl
theorem bs_ne {pl : List UInt8} (h : pl ≠ []) : ((bs pl).toList == ByteArray.toList ⟨#[]⟩) = false := by
  rw [beq_eq_false_iff_ne, ByteArray.toList_eq, ByteArray.toList_eq]
  simpa [bs] using h
theorem bs_ne' {pl : List UInt8} (h : pl ≠ []) : ((bs pl).toList == []) = false := by
  rw [beq_eq_false_iff_ne, ByteArray.toList_eq]
  simpa [bs] using h

set_option maxHeartbeats 2000000 in
theorem rpieces_any (s : ByteArray) (w : World) (hs : s.size ≤ 70000) :
    Calls Tryz.prog 12 #[.string s] w fun e w' => ((∃ ps v, piecesL s.data.toList = some ps ∧ e = .returned (.tuple #[v, .bool true]) ∧ w'.ownsRow w.heap.size 9 1 v ps.length (ps.map sV)) ∨ (piecesL s.data.toList = none ∧ e = .returned (.tuple #[.slice none 0 0, .bool false]))) ∧ Below w.heap.size w w' := by
  obtain ⟨i0, hi, hz0, hz1, hz2⟩ := info_parts (P := Tryz.prog) (e := 9) (z := .string ⟨#[]⟩) (size := 1) (bytes := 16) (by kernel_rfl)
  go_enter Tryz.func12, Tryz.ntmps12
  go_wp2
  go_loopw [4, 5, 6] (fun o p i wr => ∃ (k : Nat) (ol : List (List UInt8)) (pl : List UInt8), k ≤ s.size ∧ i = .int .i64 k ∧ p = .string (bs pl) ∧ wr.ownsRow w.heap.size 9 1 o ol.length (ol.map sV) ∧ Below w.heap.size w wr ∧ pl.length ≤ k ∧ ol.length ≤ 2 * k ∧ piecesL s.data.toList = pcs (s.data.toList.drop k) ol pl) (fun _ _ i _ => s.size - (intOf i).toNat)
  case atStart => exact ⟨0, [], [], Nat.zero_le _, rfl, rfl, World.ownsRow_lit w #[] 0 (Nat.le_refl _) (by decide) rfl, (Below.refl _ _).alloc (Nat.le_refl _) _, Nat.le_refl _, Nat.le_refl _, rfl⟩
  case round =>
    obtain ⟨k, ol, pl, hk, rfl, rfl, hown, hb, hpl, hol, hP⟩ := hrel
    have HP : Hid (piecesL s.data.toList = pcs (s.data.toList.drop k) ol pl) := hP
    have HO : Hid (wr.ownsRow w.heap.size 9 1 _ ol.length (ol.map sV)) := hown
    have HB : Hid (Below w.heap.size w wr) := hb
    have hsz : (bs pl).size = pl.length := bs_size pl
    clear hP hown hb
    by_cases hlt : k < s.size
    · have hsf := sign_form s k
      obtain ⟨b0, b1⟩ := signAt_bd s k
      have HST : Hid _ := pcs_step s.data.toList k hlt ol pl
      have HCK : Hid _ := sign_ck s k hlt
      have hcut := cut_one s k hlt
      generalize s.data.toList.getD k 0 = c at *
      generalize signAt s k = C at *
      go_wp2_with fail
      refine (rkind_any C _ b0 b1).mono ?_
      rw [HCK.out]
      rintro e w1 ⟨rfl, hw⟩
      have hw := hw.symm
      subst hw
      have hv : ck c = 0 ∨ ck c = 1 ∨ ck c = 2 ∨ ck c = 3 ∨ ck c = 4 := skind_vals _
      rcases hv with hv | hv | hv | hv | hv
      · rw [hv]
        have hnil : bs ([] : List UInt8) = ⟨#[]⟩ := rfl
        have hs2 : (bs [c]).size = 1 := bs_size _
        by_cases hp : pl = []
        · subst hp
          go_wp2
          go_ret2
          exact ⟨.inr ⟨by rw [HP.out, HST.out, if_neg (by omega), if_pos hv], rfl⟩, HB.out⟩
        · have hn1 := bs_ne hp
          have hn2 := bs_ne' hp
          go_wp2_with (at_builtin; refine wpList_append_own _ rfl _ _ 37 rfl w.heap.size 9 i0 _ 1 16 Tryz.underlying37 hi hz0 hz1 hz2 rfl (by decide) _ _ _ rfl (HO.out.alloc _) ⟨wr.heap.size, 0, none⟩ 1 1 [.string (bs pl)] rfl rfl ?c1a0 ?c2a0 ?c3a0 ?c4a0 ?c5a0 ?_)
          case c1a0 =>
            intro j u hj
            match j, hj with
            | 0, hj => simp at hj; subst hj; simp [Addr.add]
          case c2a0 => intro u hu; simp at hu; subst hu; rfl
          case c3a0 => unfold maxLen; first | omega | (simp; omega)
          case c4a0 => first | omega | (simp; omega)
          case c5a0 => have := HB.out.size; simp; omega
          intro v3 w3 hown' hgrow _
          have HBw3 : Hid (Below w.heap.size w w3) := (HB.out.alloc HB.out.size _).grown hgrow (by have := HB.out.size; simp; omega) (fun j hj => (HO.out.lt j hj).1)
          have HOw3 : Hid (w3.ownsRow w.heap.size 9 1 v3 (ol ++ [ pl ]).length ((ol ++ [ pl ]).map sV)) := by
            first
            | (rw [List.map_append, List.length_append]; exact hown')
            | (rw [show ((ol ++ [pl]) ++ [ [c] ]).length = ol.length + 1 + 1 from by simp, show (((ol ++ [pl]) ++ [ [c] ]).map sV) = List.map sV ol ++ [sV pl, .string (bs [c])] from by simp [sV]]; exact hown')
          clear hown' hgrow
          go_wp2
          go_ret2
          exact ⟨.inr ⟨by rw [HP.out, HST.out, if_neg (by omega), if_pos hv], rfl⟩, HBw3.out⟩
      · rw [hv]
        have hnil : bs ([] : List UInt8) = ⟨#[]⟩ := rfl
        have hs2 : (bs [c]).size = 1 := bs_size _
        by_cases hp : pl = []
        · subst hp
          go_wp2
          go_roundw
          case rel => exact ⟨k + 1, ol, [], by omega, by go_num, rfl, HO.out, HB.out, Nat.zero_le _, by first | omega | (simp; omega), by rw [HP.out, HST.out, if_neg (by omega), if_neg (by omega), if_neg (by omega), if_neg (by omega), flush_nil]⟩
          case measure => simp [intOf]; omega
        · have hn1 := bs_ne hp
          have hn2 := bs_ne' hp
          go_wp2_with (at_builtin; refine wpList_append_own _ rfl _ _ 37 rfl w.heap.size 9 i0 _ 1 16 Tryz.underlying37 hi hz0 hz1 hz2 rfl (by decide) _ _ _ rfl (HO.out.alloc _) ⟨wr.heap.size, 0, none⟩ 1 1 [.string (bs pl)] rfl rfl ?c1a1 ?c2a1 ?c3a1 ?c4a1 ?c5a1 ?_)
          case c1a1 =>
            intro j u hj
            match j, hj with
            | 0, hj => simp at hj; subst hj; simp [Addr.add]
          case c2a1 => intro u hu; simp at hu; subst hu; rfl
          case c3a1 => unfold maxLen; first | omega | (simp; omega)
          case c4a1 => first | omega | (simp; omega)
          case c5a1 => have := HB.out.size; simp; omega
          intro v3 w3 hown' hgrow _
          have HBw3 : Hid (Below w.heap.size w w3) := (HB.out.alloc HB.out.size _).grown hgrow (by have := HB.out.size; simp; omega) (fun j hj => (HO.out.lt j hj).1)
          have HOw3 : Hid (w3.ownsRow w.heap.size 9 1 v3 (ol ++ [ pl ]).length ((ol ++ [ pl ]).map sV)) := by
            first
            | (rw [List.map_append, List.length_append]; exact hown')
            | (rw [show ((ol ++ [pl]) ++ [ [c] ]).length = ol.length + 1 + 1 from by simp, show (((ol ++ [pl]) ++ [ [c] ]).map sV) = List.map sV ol ++ [sV pl, .string (bs [c])] from by simp [sV]]; exact hown')
          clear hown' hgrow
          go_wp2
          go_roundw
          case rel => exact ⟨k + 1, (ol ++ [pl]), [], by omega, by go_num, rfl, HOw3.out, HBw3.out, Nat.zero_le _, by first | omega | (simp; omega), by rw [HP.out, HST.out, if_neg (by omega), if_neg (by omega), if_neg (by omega), if_neg (by omega), flush_one ol hp]⟩
          case measure => simp [intOf]; omega
      · rw [hv]
        have hnil : bs ([] : List UInt8) = ⟨#[]⟩ := rfl
        have hs2 : (bs [c]).size = 1 := bs_size _
        by_cases hp : pl = []
        · subst hp
          go_wp2_with (at_builtin; refine wpList_append_own _ rfl _ _ 37 rfl w.heap.size 9 i0 _ 1 16 Tryz.underlying37 hi hz0 hz1 hz2 rfl (by decide) _ _ _ rfl (HO.out.alloc _) ⟨wr.heap.size, 0, none⟩ 1 1 [.string (bs [c])] rfl rfl ?c1b1 ?c2b1 ?c3b1 ?c4b1 ?c5b1 ?_)
          case c1b1 =>
            intro j u hj
            match j, hj with
            | 0, hj => simp at hj; subst hj; simp [Addr.add]
          case c2b1 => intro u hu; simp at hu; subst hu; rfl
          case c3b1 => unfold maxLen; first | omega | (simp; omega)
          case c4b1 => first | omega | (simp; omega)
          case c5b1 => have := HB.out.size; simp; omega
          intro v5 w5 hown' hgrow _
          have HBw5 : Hid (Below w.heap.size w w5) := (HB.out.alloc HB.out.size _).grown hgrow (by have := HB.out.size; simp; omega) (fun j hj => (HO.out.lt j hj).1)
          have HOw5 : Hid (w5.ownsRow w.heap.size 9 1 v5 (ol ++ [ [c] ]).length ((ol ++ [ [c] ]).map sV)) := by
            first
            | (rw [List.map_append, List.length_append]; exact hown')
            | (rw [show ((ol ++ [pl]) ++ [ [c] ]).length = ol.length + 1 + 1 from by simp, show (((ol ++ [pl]) ++ [ [c] ]).map sV) = List.map sV ol ++ [sV pl, .string (bs [c])] from by simp [sV]]; exact hown')
          clear hown' hgrow
          go_wp2
          go_roundw
          case rel => exact ⟨k + 1, ol ++ [ [c] ], [], by omega, by go_num, rfl, HOw5.out, HBw5.out, Nat.zero_le _, by first | omega | (simp; omega), by rw [HP.out, HST.out, if_neg (by omega), if_neg (by omega), if_neg (by omega), if_pos hv, flush_nil]⟩
          case measure => simp [intOf]; omega
        · have hn1 := bs_ne hp
          have hn2 := bs_ne' hp
          go_wp2_with (at_builtin; refine wpList_append_own _ rfl _ _ 37 rfl w.heap.size 9 i0 _ 1 16 Tryz.underlying37 hi hz0 hz1 hz2 rfl (by decide) _ _ _ rfl (HO.out.alloc _) ⟨wr.heap.size, 0, none⟩ 1 1 [.string (bs pl)] rfl rfl ?c1a2 ?c2a2 ?c3a2 ?c4a2 ?c5a2 ?_)
          case c1a2 =>
            intro j u hj
            match j, hj with
            | 0, hj => simp at hj; subst hj; simp [Addr.add]
          case c2a2 => intro u hu; simp at hu; subst hu; rfl
          case c3a2 => unfold maxLen; first | omega | (simp; omega)
          case c4a2 => first | omega | (simp; omega)
          case c5a2 => have := HB.out.size; simp; omega
          intro v3 w3 hown' hgrow _
          have HBw3 : Hid (Below w.heap.size w w3) := (HB.out.alloc HB.out.size _).grown hgrow (by have := HB.out.size; simp; omega) (fun j hj => (HO.out.lt j hj).1)
          have HOw3 : Hid (w3.ownsRow w.heap.size 9 1 v3 (ol ++ [ pl ]).length ((ol ++ [ pl ]).map sV)) := by
            first
            | (rw [List.map_append, List.length_append]; exact hown')
            | (rw [show ((ol ++ [pl]) ++ [ [c] ]).length = ol.length + 1 + 1 from by simp, show (((ol ++ [pl]) ++ [ [c] ]).map sV) = List.map sV ol ++ [sV pl, .string (bs [c])] from by simp [sV]]; exact hown')
          clear hown' hgrow
          go_wp2_with (at_builtin; refine wpList_append_own _ rfl _ _ 37 rfl w.heap.size 9 i0 _ 1 16 Tryz.underlying37 hi hz0 hz1 hz2 rfl (by decide) _ _ _ rfl (HOw3.out.alloc _) ⟨w3.heap.size, 0, none⟩ 1 1 [.string (bs [c])] rfl rfl ?c1b2 ?c2b2 ?c3b2 ?c4b2 ?c5b2 ?_)
          case c1b2 =>
            intro j u hj
            match j, hj with
            | 0, hj => simp at hj; subst hj; simp [Addr.add]
          case c2b2 => intro u hu; simp at hu; subst hu; rfl
          case c3b2 => unfold maxLen; first | omega | (simp; omega)
          case c4b2 => first | omega | (simp; omega)
          case c5b2 => have := HBw3.out.size; simp; omega
          intro v5 w5 hown' hgrow _
          have HBw5 : Hid (Below w.heap.size w w5) := (HBw3.out.alloc HBw3.out.size _).grown hgrow (by have := HBw3.out.size; simp; omega) (fun j hj => (HOw3.out.lt j hj).1)
          have HOw5 : Hid (w5.ownsRow w.heap.size 9 1 v5 ((ol ++ [pl]) ++ [ [c] ]).length (((ol ++ [pl]) ++ [ [c] ]).map sV)) := by
            first
            | (rw [List.map_append, List.length_append]; exact hown')
            | (rw [show ((ol ++ [pl]) ++ [ [c] ]).length = ol.length + 1 + 1 from by simp, show (((ol ++ [pl]) ++ [ [c] ]).map sV) = List.map sV ol ++ [sV pl, .string (bs [c])] from by simp [sV]]; exact hown')
          clear hown' hgrow
          go_wp2
          go_roundw
          case rel => exact ⟨k + 1, (ol ++ [pl]) ++ [ [c] ], [], by omega, by go_num, rfl, HOw5.out, HBw5.out, Nat.zero_le _, by first | omega | (simp; omega), by rw [HP.out, HST.out, if_neg (by omega), if_neg (by omega), if_neg (by omega), if_pos hv, flush_one ol hp]⟩
          case measure => simp [intOf]; omega
      · rw [hv]
        have hs2 : (bs [c]).size = 1 := bs_size _
        go_wp2
        go_roundw
        case rel => exact ⟨k + 1, ol, pl ++ [c], by omega, by go_num, by rw [bs_app], HO.out, HB.out, by simp; omega, by omega, by rw [HP.out, HST.out, if_pos hv]⟩
        case measure => simp [intOf]; omega
      · rw [hv]
        have hnil : bs ([] : List UInt8) = ⟨#[]⟩ := rfl
        have hs2 : (bs [c]).size = 1 := bs_size _
        by_cases hp : pl = []
        · subst hp
          go_wp2
          go_ret2
          exact ⟨.inl ⟨ol, _, by rw [HP.out, HST.out, if_neg (by omega), if_neg (by omega), if_pos hv, flush_nil], rfl, HO.out⟩, HB.out⟩
        · have hn1 := bs_ne hp
          have hn2 := bs_ne' hp
          go_wp2_with (at_builtin; refine wpList_append_own _ rfl _ _ 37 rfl w.heap.size 9 i0 _ 1 16 Tryz.underlying37 hi hz0 hz1 hz2 rfl (by decide) _ _ _ rfl (HO.out.alloc _) ⟨wr.heap.size, 0, none⟩ 1 1 [.string (bs pl)] rfl rfl ?c1a4 ?c2a4 ?c3a4 ?c4a4 ?c5a4 ?_)
          case c1a4 =>
            intro j u hj
            match j, hj with
            | 0, hj => simp at hj; subst hj; simp [Addr.add]
          case c2a4 => intro u hu; simp at hu; subst hu; rfl
          case c3a4 => unfold maxLen; first | omega | (simp; omega)
          case c4a4 => first | omega | (simp; omega)
          case c5a4 => have := HB.out.size; simp; omega
          intro v3 w3 hown' hgrow _
          have HBw3 : Hid (Below w.heap.size w w3) := (HB.out.alloc HB.out.size _).grown hgrow (by have := HB.out.size; simp; omega) (fun j hj => (HO.out.lt j hj).1)
          have HOw3 : Hid (w3.ownsRow w.heap.size 9 1 v3 (ol ++ [ pl ]).length ((ol ++ [ pl ]).map sV)) := by
            first
            | (rw [List.map_append, List.length_append]; exact hown')
            | (rw [show ((ol ++ [pl]) ++ [ [c] ]).length = ol.length + 1 + 1 from by simp, show (((ol ++ [pl]) ++ [ [c] ]).map sV) = List.map sV ol ++ [sV pl, .string (bs [c])] from by simp [sV]]; exact hown')
          clear hown' hgrow
          go_wp2
          go_ret2
          exact ⟨.inl ⟨(ol ++ [pl]), _, by rw [HP.out, HST.out, if_neg (by omega), if_neg (by omega), if_pos hv, flush_one ol hp], rfl, HOw3.out⟩, HBw3.out⟩
    · obtain rfl : k = s.size := by omega
      have HE : Hid (piecesL s.data.toList = some (flushP ol pl)) := by
        show piecesL s.data.toList = _
        rw [HP.out, List.drop_eq_nil_of_le (show s.data.toList.length ≤ s.size from by rw [Array.length_toList]; exact Nat.le_refl _)]; rfl
      have hnil : bs ([] : List UInt8) = ⟨#[]⟩ := rfl
      by_cases hp : pl = []
      · subst hp
        go_wp2
        go_ret2
        exact ⟨.inl ⟨ol, _, HE.out, rfl, HO.out⟩, HB.out⟩
      · have hn1 := bs_ne hp
        have hn2 := bs_ne' hp
        go_wp2_with (at_builtin; refine wpList_append_own _ rfl _ _ 37 rfl w.heap.size 9 i0 _ 1 16 Tryz.underlying37 hi hz0 hz1 hz2 rfl (by decide) _ _ _ rfl (HO.out.alloc _) ⟨wr.heap.size, 0, none⟩ 1 1 [.string (bs pl)] rfl rfl ?c1e ?c2e ?c3e ?c4e ?c5e ?_)
        case c1e =>
          intro j u hj
          match j, hj with
          | 0, hj => simp at hj; subst hj; simp [Addr.add]
        case c2e => intro u hu; simp at hu; subst hu; rfl
        case c3e => unfold maxLen; first | omega | (simp; omega)
        case c4e => first | omega | (simp; omega)
        case c5e => have := HB.out.size; simp; omega
        intro v3 w3 hown' hgrow _
        have HBw3 : Hid (Below w.heap.size w w3) := (HB.out.alloc HB.out.size _).grown hgrow (by have := HB.out.size; simp; omega) (fun j hj => (HO.out.lt j hj).1)
        have HOw3 : Hid (w3.ownsRow w.heap.size 9 1 v3 (ol ++ [ pl ]).length ((ol ++ [ pl ]).map sV)) := by
          first
          | (rw [List.map_append, List.length_append]; exact hown')
          | (rw [show ((ol ++ [pl]) ++ [ [c] ]).length = ol.length + 1 + 1 from by simp, show (((ol ++ [pl]) ++ [ [c] ]).map sV) = List.map sV ol ++ [sV pl, .string (bs [c])] from by simp [sV]]; exact hown')
        clear hown' hgrow
        go_wp2
        go_ret2
        exact ⟨.inl ⟨ol ++ [pl], _, by rw [HE.out, flush_one ol hp], rfl, HOw3.out⟩, HBw3.out⟩
end Go.Proofs.YthgolbmngjdbeaaGreatDoor

/- Layer 6: the document's own digits, Register, Name and Number. -/
namespace Go.Proofs.YthgolbmngjdbeaaGreatDoor
open Go.RowKit
set_option linter.unusedVariables false

theorem sign_bs (l : List UInt8) (k : Nat) : signAt (bs l) k = ((l.getD k 0).toNat : Int) := by
  unfold signAt bs
  simp [List.getD]
theorem take_all (l : List UInt8) (k : Nat) (hk : k < l.length) (h : (l.take k).all isDg = true) (hc : isDg (l.getD k 0) = true) : (l.take (k + 1)).all isDg = true := by
  have e : l.take (k + 1) = l.take k ++ [l.getD k 0] := by
    rw [List.take_add_one]
    simp [List.getD, hk]
  rw [e]
  simp only [List.all_append, List.all_cons, List.all_nil, Bool.and_true, h, hc]
theorem take_val (l : List UInt8) (k : Nat) (hk : k < l.length) : valL (l.take (k + 1)) = valL (l.take k) * 10 + ((l.getD k 0).toNat - 48) := by
  have e : l.take (k + 1) = l.take k ++ [l.getD k 0] := by
    rw [List.take_add_one]
    simp [List.getD, hk]
  rw [e, valL_app]
theorem digN_bad (l : List UInt8) (k : Nat) (hk : k < l.length) (hc : isDg (l.getD k 0) = false) : digN l = -1 := by
  unfold digN
  rw [if_neg]
  rintro ⟨_, _, h⟩
  have := List.all_eq_true.1 h (l.getD k 0) (by
    have : l.getD k 0 = l[k] := by simp [List.getD, hk]
    rw [this]; exact List.getElem_mem hk)
  rw [hc] at this; cases this

set_option maxHeartbeats 1000000 in
theorem rdig6_any (l : List UInt8) (w : World) (hl : l.length ≤ 70000) :
    Calls Tryz.prog 54 #[.string (bs l)] w fun e w' => e = .returned (.int .i64 (digN l)) ∧ w' = w := by
  have hsz : (bs l).size = l.length := bs_size l
  by_cases hr : 1 ≤ l.length ∧ l.length ≤ 10
  · obtain ⟨r0, r1⟩ := hr
    go_enter Tryz.func54, Tryz.ntmps54
    go_wp2
    go_loop [3, 4] (fun n i => ∃ k : Nat, k ≤ l.length ∧ i = .int .i64 k ∧ n = .int .i64 (valL (l.take k) : Nat) ∧ Hid ((l.take k).all isDg = true)) (fun _ i => l.length - (intOf i).toNat)
    case atStart => exact ⟨0, Nat.zero_le _, rfl, rfl, by show _ = _; simp⟩
    case round =>
      obtain ⟨k, hk, rfl, rfl, HA⟩ := hrel
      have hb : valL (l.take k) < 10 ^ k := by
        have := valL_lt _ HA.out
        rwa [List.length_take, Nat.min_eq_left hk] at this
      have hb2 : (10 : Nat) ^ k ≤ 10 ^ 10 := Nat.pow_le_pow_right (by decide) (by omega)
      have hb3 : valL (l.take k) < 10000000000 := Nat.lt_of_lt_of_le hb hb2
      clear hb hb2
      by_cases hlt : k < l.length
      · have hsf := sign_form (bs l) k
        obtain ⟨b0, b1⟩ := signAt_bd (bs l) k
        have hC := sign_bs l k
        have HV : Hid _ := take_val l k hlt
        have HT : Hid ((isDg (l.getD k 0) = true → (l.take (k + 1)).all isDg = true)) := take_all l k hlt HA.out
        have HN : Hid (isDg (l.getD k 0) = false → digN l = -1) := digN_bad l k hlt
        generalize l.getD k 0 = c at *
        generalize valL (l.take k) = V at *
        generalize signAt (bs l) k = C at *
        have HC : Hid (C = (c.toNat : Int)) := hC
        clear hC
        rcases (show C < 48 ∨ 57 < C ∨ (48 ≤ C ∧ C ≤ 57) by omega) with g | g | ⟨g, g'⟩
        · go_wp2
          go_ret
          have : isDg c = false := by
            unfold isDg; have := HC.out; exact decide_eq_false (by omega)
          rw [HN.out this]
          exact ⟨rfl, rfl⟩
        · go_wp2
          go_ret
          have : isDg c = false := by
            unfold isDg; have := HC.out; exact decide_eq_false (by omega)
          rw [HN.out this]
          exact ⟨rfl, rfl⟩
        · go_wp2
          go_round
          case rel =>
            refine ⟨k + 1, by omega, by go_num, ?_, HT.out (by unfold isDg; have := HC.out; exact decide_eq_true (by omega))⟩
            rw [HV.out]
            have := HC.out
            congr 1
            omega
          case measure => simp [intOf]; omega
      · obtain rfl : k = l.length := by omega
        go_wp2
        go_ret
        have : digN l = (valL l : Nat) := by
          unfold digN
          rw [if_pos ⟨r0, r1, by have := HA.out; rwa [List.take_length] at this⟩]
        rw [this]
        exact ⟨rfl, rfl⟩
  · have hd : digN l = -1 := by
      unfold digN
      rw [if_neg]
      rintro ⟨h1, h2, _⟩
      exact hr ⟨h1, h2⟩
    rw [hd]
    rcases (show l.length < 1 ∨ 10 < l.length by omega) with g | g
    · go_enter Tryz.func54, Tryz.ntmps54
      go_wp2
      go_ret
      exact ⟨rfl, rfl⟩
    · go_enter Tryz.func54, Tryz.ntmps54
      go_wp2
      go_ret
      exact ⟨rfl, rfl⟩

theorem drop_bs (l : List UInt8) (k : Nat) : (bs l).extract k l.length = bs (l.drop k) := by
  apply ByteArray.ext
  rw [ByteArray.data_extract]
  apply Array.ext'
  simp [bs]
  exact List.take_of_length_le (by simp)

theorem digN_lt (l : List UInt8) : digN l < 10000000000 ∧ -1 ≤ digN l := by
  unfold digN
  split
  · rename_i h
    have a := valL_lt l h.2.2
    have b : (10 : Nat) ^ l.length ≤ 10 ^ 10 := Nat.pow_le_pow_right (by decide) h.2.1
    have c : valL l < 10000000000 := Nat.lt_of_lt_of_le a b
    omega
  · omega

set_option maxHeartbeats 1000000 in
theorem rreg6_any (l : List UInt8) (w : World) (hl : l.length ≤ 70000) :
    Calls Tryz.prog 56 #[.string (bs l)] w fun e w' => e = .returned (.int .i64 (regN l)) ∧ w' = w := by
  have hsz : (bs l).size = l.length := bs_size l
  by_cases h1 : l.length < 2
  · have HR : Hid (regN l = -1) := by
      show regN l = -1
      unfold regN; rw [if_pos (.inl h1)]
    go_enter Tryz.func56, Tryz.ntmps56
    go_wp2
    go_ret
    rw [HR.out]
    exact ⟨rfl, rfl⟩
  · by_cases h2 : 3 < l.length
    · have HR : Hid (regN l = -1) := by
        show regN l = -1
        unfold regN; rw [if_pos (.inr (.inl h2))]
      go_enter Tryz.func56, Tryz.ntmps56
      go_wp2
      go_ret
      rw [HR.out]
      exact ⟨rfl, rfl⟩
    · have hs0 := sign_form (bs l) 0
      have hs1 := sign_form (bs l) 1
      have hC0 := sign_bs l 0
      have hC1 := sign_bs l 1
      obtain ⟨b0, b0'⟩ := signAt_bd (bs l) 0
      obtain ⟨b1, b1'⟩ := signAt_bd (bs l) 1
      have hdr := drop_bs l 1
      obtain ⟨d1, d0⟩ := digN_lt (l.drop 1)
      have HL : Hid ((l.drop 1).length ≤ 70000) := by show _ ≤ _; simp; omega
      have HR : Hid (regN l = if l.getD 0 0 ≠ 120 then -1 else if 31 < digN (l.drop 1) ∨ (l.length = 3 ∧ l.getD 1 0 = 48) then -1 else digN (l.drop 1)) := by
        show regN l = _
        unfold regN
        by_cases h : l.getD 0 0 ≠ 120
        · rw [if_pos (.inr (.inr h)), if_pos h]
        · rw [if_neg (by rintro (g | g | g); exact absurd g h1; exact absurd g h2; exact h g), if_neg h]
      generalize l.drop 1 = t at *
      generalize l.getD 0 0 = c0 at *
      generalize l.getD 1 0 = c1 at *
      generalize signAt (bs l) 0 = C0 at *
      generalize signAt (bs l) 1 = C1 at *
      have E0 : Hid (C0 = (c0.toNat : Int)) := hC0
      have E1 : Hid (C1 = (c1.toNat : Int)) := hC1
      have U : ∀ (x : UInt8) (n : Nat), n < 256 → x.toNat = n → x = UInt8.ofNat n := fun x n hn h => by
        apply UInt8.toNat_inj.1
        rw [UInt8.toNat_ofNat', h]
        omega
      have HU : Hid (∀ (x : UInt8) (n : Nat), n < 256 → x.toNat = n → x = UInt8.ofNat n) := U
      clear hC0 hC1 U
      by_cases hc0 : C0 = 120
      · subst hc0
        have HR2 : Hid (regN l = if 31 < digN t ∨ (l.length = 3 ∧ c1 = 48) then -1 else digN t) := by
          show regN l = _
          rw [HR.out, if_neg]
          intro hne
          exact hne (HU.out c0 120 (by decide) (by have := E0.out; omega))
        clear HR
        have HD : Hid (∀ w, Calls Tryz.prog 54 #[.string (bs t)] w fun e w' => e = .returned (.int .i64 (digN t)) ∧ w' = w) := fun w => rdig6_any t w HL.out
        generalize digN t = D at *
        rcases (show l.length = 2 ∨ l.length = 3 by omega) with h3 | h3
        · have hdr2 : (bs l).extract 1 2 = bs t := by rw [← h3]; exact hdr
          by_cases hg : 31 < D
          · have HRF : Hid (regN l = -1) := by
              show regN l = -1
              rw [HR2.out, if_pos (.inl hg)]
            go_enter Tryz.func56, Tryz.ntmps56
            go_wp2_with (first | (go_at_call 54; refine (HD.out _).mono ?_; rintro e w' ⟨rfl, hw⟩; have hw := hw.symm; subst hw))
            go_ret
            rw [HRF.out]
            exact ⟨rfl, rfl⟩
          · have HRF : Hid (regN l = D) := by
              show regN l = D
              rw [HR2.out, if_neg (by omega)]
            go_enter Tryz.func56, Tryz.ntmps56
            go_wp2_with (first | (go_at_call 54; refine (HD.out _).mono ?_; rintro e w' ⟨rfl, hw⟩; have hw := hw.symm; subst hw))
            go_ret
            rw [HRF.out]
            exact ⟨rfl, rfl⟩
        · have hdr2 : (bs l).extract 1 3 = bs t := by rw [← h3]; exact hdr
          by_cases hg : 31 < D
          · have HRF : Hid (regN l = -1) := by
              show regN l = -1
              rw [HR2.out, if_pos (.inl hg)]
            go_enter Tryz.func56, Tryz.ntmps56
            go_wp2_with (first | (go_at_call 54; refine (HD.out _).mono ?_; rintro e w' ⟨rfl, hw⟩; have hw := hw.symm; subst hw))
            go_ret
            rw [HRF.out]
            exact ⟨rfl, rfl⟩
          · by_cases hc1 : C1 = 48
            · subst hc1
              have HRF : Hid (regN l = -1) := by
                show regN l = -1
                rw [HR2.out, if_pos (.inr ⟨h3, HU.out c1 48 (by decide) (by have := E1.out; omega)⟩)]
              go_enter Tryz.func56, Tryz.ntmps56
              go_wp2_with (first | (go_at_call 54; refine (HD.out _).mono ?_; rintro e w' ⟨rfl, hw⟩; have hw := hw.symm; subst hw))
              go_ret
              rw [HRF.out]
              exact ⟨rfl, rfl⟩
            · have hn1 : (C1 == 48) = false := by simpa using hc1
              have HRF : Hid (regN l = D) := by
                show regN l = D
                rw [HR2.out, if_neg]
                rintro (g | ⟨_, g⟩)
                · exact hg g
                · have := E1.out
                  rw [g] at this
                  exact hc1 this
              go_enter Tryz.func56, Tryz.ntmps56
              go_wp2_with (first | (go_at_call 54; refine (HD.out _).mono ?_; rintro e w' ⟨rfl, hw⟩; have hw := hw.symm; subst hw))
              go_ret
              rw [HRF.out]
              exact ⟨rfl, rfl⟩
      · have hn0 : (C0 != 120) = true := by simpa using hc0
        have hn0' : (C0 == 120) = false := by simpa using hc0
        have HRF : Hid (regN l = -1) := by
          show regN l = -1
          rw [HR.out, if_pos]
          intro g
          have := E0.out
          rw [g] at this
          exact hc0 this
        have HD : Hid (∀ w, Calls Tryz.prog 54 #[.string (bs t)] w fun e w' => e = .returned (.int .i64 (digN t)) ∧ w' = w) := fun w => rdig6_any t w HL.out
        go_enter Tryz.func56, Tryz.ntmps56
        go_wp2_with (first | (go_at_call 54; refine (HD.out _).mono ?_; rintro e w' ⟨rfl, hw⟩; have hw := hw.symm; subst hw))
        go_ret
        rw [HRF.out]
        exact ⟨rfl, rfl⟩

set_option maxHeartbeats 1000000 in
theorem rname6_any (l : List UInt8) (w : World) (hl : l.length ≤ 70000) :
    Calls Tryz.prog 13 #[.string (bs l)] w fun e w' => e = .returned (.bool (nameB l)) ∧ w' = w := by
  cases l with
  | nil =>
    have hnil : bs ([] : List UInt8) = ⟨#[]⟩ := rfl
    go_enter Tryz.func13, Tryz.ntmps13
    go_wp2
    go_ret
    exact ⟨rfl, rfl⟩
  | cons c r =>
    have hsz : (bs (c :: r)).size = r.length + 1 := bs_size _
    have hn : ((bs (c :: r)).toList == ByteArray.toList ⟨#[]⟩) = false := by
      rw [beq_eq_false_iff_ne, ByteArray.toList_eq, ByteArray.toList_eq]
      simp [bs]
    have hn' : ((bs (c :: r)).toList == []) = false := by
      rw [beq_eq_false_iff_ne, ByteArray.toList_eq]
      simp [bs]
    have hs0 := sign_form (bs (c :: r)) 0
    have hC0 : signAt (bs (c :: r)) 0 = (c.toNat : Int) := sign_bs (c :: r) 0
    have hl' : r.length ≤ 70000 := by simp at hl; omega
    have HB : Hid (nameB (c :: r) = decide ((97 ≤ c.toNat ∧ c.toNat ≤ 122) ∨ (65 ≤ c.toNat ∧ c.toNat ≤ 90) ∨ c.toNat = 95)) := rfl
    have hlt := c.toNat_lt
    generalize bs (c :: r) = S at *
    generalize nameB (c :: r) = NB at *
    generalize signAt S 0 = C at *
    generalize c.toNat = N at *
    subst hC0
    clear hl
    by_cases h95 : N = 95
    · subst h95
      have HB2 : NB = true := HB.out
      subst HB2
      go_enter Tryz.func13, Tryz.ntmps13
      go_wp2
      go_ret
      exact ⟨rfl, rfl⟩
    · have e95 : ((N : Int) == 95) = false := by simp; omega
      rcases (show N < 65 ∨ (65 ≤ N ∧ N ≤ 90) ∨ (90 < N ∧ N < 97) ∨ (97 ≤ N ∧ N ≤ 122) ∨ 122 < N by omega) with g | ⟨g, g'⟩ | ⟨g, g'⟩ | ⟨g, g'⟩ | g
      all_goals
        go_enter Tryz.func13, Tryz.ntmps13
        go_wp2
        go_ret
        refine ⟨ret_bool ?_, rfl⟩
        rw [HB.out]
        first | exact decide_eq_true (by omega) | exact decide_eq_false (by omega) | (rw [decide_eq_decide]; omega) | (rw [Bool.eq_iff_iff]; simp; omega)
end Go.Proofs.YthgolbmngjdbeaaGreatDoor

/- Layer 6: the document's own lines and find. -/
namespace Go.Proofs.YthgolbmngjdbeaaGreatDoor
open Go.RowKit
set_option linter.unusedVariables false

/-- The lines of what is left, behind the beginning of one. -/
def lns : List UInt8 → List UInt8 → List (List UInt8)
  | [], cur => if cur = [] then [] else [cur]
  | c :: r, cur => if c = 10 then cur :: lns r [] else lns r (cur ++ [c])
def linesOf (l : List UInt8) : List (List UInt8) := lns l []
/-- What has been read of a line. -/
def curL (l : List UInt8) (f k : Nat) : List UInt8 := (l.drop f).take (k - f)
theorem cur_next (l : List UInt8) (f k : Nat) (hf : f ≤ k) (hk : k < l.length) : curL l f (k + 1) = curL l f k ++ [l.getD k 0] := by
  unfold curL
  rw [show k + 1 - f = (k - f) + 1 from by omega, List.take_add_one]
  congr 1
  rw [List.getElem?_drop, show f + (k - f) = k from by omega]
  simp [List.getD, hk]
theorem cur_nil (l : List UInt8) (k : Nat) : curL l k k = [] := by unfold curL; simp
theorem lns_step (l : List UInt8) (k : Nat) (hk : k < l.length) (cur : List UInt8) : lns (l.drop k) cur = if l.getD k 0 = 10 then cur :: lns (l.drop (k + 1)) [] else lns (l.drop (k + 1)) (cur ++ [l.getD k 0]) := by
  have e : l.drop k = l.getD k 0 :: l.drop (k + 1) := by
    rw [List.drop_eq_getElem_cons hk]
    simp [List.getD, hk]
  rw [e]; rfl
theorem cut_bs (l : List UInt8) (f k : Nat) : (bs l).extract f k = bs (curL l f k) := by
  apply ByteArray.ext
  rw [ByteArray.data_extract]
  apply Array.ext'
  simp [bs, curL]
  try rw [List.take_drop]

theorem byte_is10 (x : UInt8) (h : x.toNat = 10) : x = 10 := by
  apply UInt8.toNat_inj.1
  rw [h]; rfl

set_option maxHeartbeats 2000000 in
theorem rlines_any (l : List UInt8) (w : World) (hl : l.length ≤ 70000) :
    Calls Tryz.prog 11 #[.string (bs l)] w fun e w' => ∃ v, e = .returned v ∧ w'.ownsRow w.heap.size 9 1 v (linesOf l).length ((linesOf l).map sV) ∧ Below w.heap.size w w' := by
  obtain ⟨i0, hi, hz0, hz1, hz2⟩ := info_parts (P := Tryz.prog) (e := 9) (z := .string ⟨#[]⟩) (size := 1) (bytes := 16) (by kernel_rfl)
  have hsz : (bs l).size = l.length := bs_size l
  go_enter Tryz.func11, Tryz.ntmps11
  go_wp2
  go_loopw [3, 4, 5] (fun o f i wr => ∃ (k g : Nat) (ol : List (List UInt8)), k ≤ l.length ∧ g ≤ k ∧ i = .int .i64 k ∧ f = .int .i64 g ∧ wr.ownsRow w.heap.size 9 1 o ol.length (ol.map sV) ∧ Below w.heap.size w wr ∧ ol.length ≤ k ∧ Hid (linesOf l = ol ++ lns (l.drop k) (curL l g k))) (fun _ _ i _ => l.length - (intOf i).toNat)
  case atStart => exact ⟨0, 0, [], Nat.zero_le _, Nat.le_refl _, rfl, rfl, World.ownsRow_lit w #[] 0 (Nat.le_refl _) (by decide) rfl, (Below.refl _ _).alloc (Nat.le_refl _) _, Nat.le_refl _, by show linesOf l = _; rw [cur_nil]; rfl⟩
  case round =>
    obtain ⟨k, g, ol, hk, hg, rfl, rfl, hown, hb, hol, HP⟩ := hrel
    have HO : Hid (wr.ownsRow w.heap.size 9 1 _ ol.length (ol.map sV)) := hown
    have HB : Hid (Below w.heap.size w wr) := hb
    clear hown hb
    by_cases hlt : k < l.length
    · have hsf := sign_form (bs l) k
      obtain ⟨b0, b1⟩ := signAt_bd (bs l) k
      have hC := sign_bs l k
      have HST : Hid (lns (l.drop k) (curL l g k) = if l.getD k 0 = 10 then curL l g k :: lns (l.drop (k + 1)) [] else lns (l.drop (k + 1)) (curL l g k ++ [l.getD k 0])) := lns_step l k hlt _
      have HCN : Hid (curL l g (k + 1) = curL l g k ++ [l.getD k 0]) := cur_next l g k hg hlt
      have HC : Hid (signAt (bs l) k = ((l.getD k 0).toNat : Int)) := hC
      clear hC
      generalize l.getD k 0 = c at *
      generalize signAt (bs l) k = C at *
      by_cases h10 : C = 10
      · subst h10
        have hcut := cut_bs l g k
        have HE : Hid (c = 10) := byte_is10 c (by have := HC.out; omega)
        generalize hcu : curL l g k = cu at *
        clear hcu
        go_wp2_with (at_builtin; refine wpList_append_own _ rfl _ _ 37 rfl w.heap.size 9 i0 _ 1 16 Tryz.underlying37 hi hz0 hz1 hz2 rfl (by decide) _ _ _ rfl (HO.out.alloc _) ⟨wr.heap.size, 0, none⟩ 1 1 [.string (bs cu)] rfl rfl ?c1a ?c2a ?c3a ?c4a ?c5a ?_)
        case c1a =>
          intro j u hj
          match j, hj with
          | 0, hj => simp at hj; subst hj; simp [Addr.add]
        case c2a => intro u hu; simp at hu; subst hu; rfl
        case c3a => unfold maxLen; first | omega | (simp; omega)
        case c4a => first | omega | (simp; omega)
        case c5a => have := HB.out.size; simp; omega
        intro v3 w3 hown' hgrow _
        have HBw3 : Hid (Below w.heap.size w w3) := (HB.out.alloc HB.out.size _).grown hgrow (by have := HB.out.size; simp; omega) (fun j hj => (HO.out.lt j hj).1)
        have HOw3 : Hid (w3.ownsRow w.heap.size 9 1 v3 (ol ++ [ cu ]).length ((ol ++ [ cu ]).map sV)) := by
          rw [List.map_append, List.length_append]; exact hown'
        clear hown' hgrow
        go_wp2
        go_roundw
        case rel => exact ⟨k + 1, k + 1, ol ++ [cu], by omega, by omega, by go_num, by go_num, HOw3.out, HBw3.out, by simp; omega, by show linesOf l = _; rw [HP.out, HST.out, if_pos HE.out, cur_nil]; simp⟩
        case measure => simp [intOf]; omega
      · have hn10 : (C == 10) = false := by simpa using h10
        have HE : Hid (c ≠ 10) := fun e => h10 (by have := HC.out; rw [e] at this; exact this)
        go_wp2
        go_roundw
        case rel => exact ⟨k + 1, g, ol, by omega, by omega, by go_num, rfl, HO.out, HB.out, by omega, by show linesOf l = _; rw [HP.out, HST.out, if_neg HE.out, HCN.out]⟩
        case measure => simp [intOf]; omega
    · obtain rfl : k = l.length := by omega
      have HE : Hid (linesOf l = ol ++ (if curL l g l.length = [] then [] else [curL l g l.length])) := by
        show linesOf l = _
        rw [HP.out, List.drop_length]; rfl
      by_cases hgl : g < l.length
      · have hcut := cut_bs l g l.length
        have hne : curL l g l.length ≠ [] := by
          unfold curL
          intro e
          have := congrArg List.length e
          simp at this
          omega
        generalize hcu : curL l g l.length = cu at *
        clear hcu
        go_wp2_with (at_builtin; refine wpList_append_own _ rfl _ _ 37 rfl w.heap.size 9 i0 _ 1 16 Tryz.underlying37 hi hz0 hz1 hz2 rfl (by decide) _ _ _ rfl (HO.out.alloc _) ⟨wr.heap.size, 0, none⟩ 1 1 [.string (bs cu)] rfl rfl ?c1b ?c2b ?c3b ?c4b ?c5b ?_)
        case c1b =>
          intro j u hj
          match j, hj with
          | 0, hj => simp at hj; subst hj; simp [Addr.add]
        case c2b => intro u hu; simp at hu; subst hu; rfl
        case c3b => unfold maxLen; first | omega | (simp; omega)
        case c4b => first | omega | (simp; omega)
        case c5b => have := HB.out.size; simp; omega
        intro v3 w3 hown' hgrow _
        have HBw3 : Hid (Below w.heap.size w w3) := (HB.out.alloc HB.out.size _).grown hgrow (by have := HB.out.size; simp; omega) (fun j hj => (HO.out.lt j hj).1)
        have HOw3 : Hid (w3.ownsRow w.heap.size 9 1 v3 (ol ++ [ cu ]).length ((ol ++ [ cu ]).map sV)) := by
          rw [List.map_append, List.length_append]; exact hown'
        clear hown' hgrow
        go_wp2
        go_ret
        refine ⟨_, rfl, ?_, HBw3.out⟩
        rw [HE.out, if_neg hne]
        exact HOw3.out
      · have he : curL l g l.length = [] := by
          unfold curL
          rw [show l.length - g = 0 from by omega]; simp
        have HF : Hid (linesOf l = ol) := by
          show linesOf l = ol
          rw [HE.out, if_pos he]; simp
        go_wp2
        go_ret
        refine ⟨_, rfl, ?_, HB.out⟩
        rw [HF.out]
        exact HO.out

/-- A text's place among texts, from k on; -1: none. -/
def fnd (s : List UInt8) : List (List UInt8) → Nat → Int
  | [], _ => -1
  | x :: r, k => if x = s then (k : Int) else fnd s r (k + 1)
def findN (ls : List (List UInt8)) (s : List UInt8) : Int := fnd s ls 0
theorem fnd_step (s : List UInt8) (ls : List (List UInt8)) (k : Nat) (hk : k < ls.length) : fnd s (ls.drop k) k = if ls.getD k [] = s then (k : Int) else fnd s (ls.drop (k + 1)) (k + 1) := by
  have e : ls.drop k = ls.getD k [] :: ls.drop (k + 1) := by
    rw [List.drop_eq_getElem_cons hk]
    simp [List.getD, hk]
  rw [e]; rfl
theorem bs_neq {a b : List UInt8} (h : a ≠ b) : ((bs a).toList == (bs b).toList) = false := by
  rw [beq_eq_false_iff_ne, ByteArray.toList_eq, ByteArray.toList_eq]
  simpa [bs] using h

set_option maxHeartbeats 1000000 in
theorem rfind_any (ls : List (List UInt8)) (s : List UInt8) (v : Value) (B : Nat) (w : World) (hn : ls.length ≤ 70000) (h : w.ownsRow B 9 1 v ls.length (ls.map sV)) :
    Calls Tryz.prog 14 #[v, .string (bs s)] w fun e w' => e = .returned (.int .i64 (findN ls s)) ∧ w' = w := by
  have HW : Hid (∀ i, i < ls.length → ∃ g c, v = .slice (some ⟨g, 0, none⟩) ls.length c ∧ w.cell? ⟨g, i, none⟩ = some (.string (bs (ls.getD i [])))) := fun i hi => by
    obtain ⟨g, c, rfl⟩ := owned_some h (by omega)
    refine ⟨g, c, rfl, ?_⟩
    rw [h.cellAt i (by omega)]
    simp [List.getD, hi, sV]
  obtain ⟨p, c, hv⟩ : ∃ p c, v = .slice p ls.length c := by
    rcases h.2 with ⟨rfl, e⟩ | ⟨g, cap, cur, rfl, _⟩
    · rw [e]; exact ⟨_, _, rfl⟩
    · exact ⟨_, _, rfl⟩
  subst hv
  clear h
  go_enter Tryz.func14, Tryz.ntmps14
  go_wp2
  go_loop [5] (fun i => ∃ k : Nat, k ≤ ls.length ∧ i = .int .i64 k ∧ Hid (findN ls s = fnd s (ls.drop k) k)) (fun i => ls.length - (intOf i).toNat)
  case atStart => exact ⟨0, Nat.zero_le _, rfl, rfl⟩
  case round =>
    obtain ⟨k, hk, rfl, HP⟩ := hrel
    by_cases hlt : k < ls.length
    · obtain ⟨g, c', hv, hcell⟩ := HW.out k hlt
      have HST : Hid (fnd s (ls.drop k) k = if ls.getD k [] = s then (k : Int) else fnd s (ls.drop (k + 1)) (k + 1)) := fnd_step s ls k hlt
      simp at hv
      obtain ⟨hp, _⟩ := hv
      subst hp
      generalize ls.getD k [] = x at *
      by_cases hx : x = s
      · have HK : Hid (findN ls s = (k : Int)) := by
          show findN ls s = _
          rw [HP.out, HST.out, if_pos hx]
        clear HP HST
        subst hx
        go_wp2
        go_ret
        rw [HK.out]
        exact ⟨rfl, rfl⟩
      · have hne := bs_neq hx
        have HX : Hid (x ≠ s) := hx
        clear hx
        go_wp2
        go_round
        case rel => exact ⟨k + 1, by omega, by go_num, by show findN ls s = _; rw [HP.out, HST.out, if_neg HX.out]⟩
        case measure => simp [intOf]; omega
    · obtain rfl : k = ls.length := by omega
      go_wp2
      go_ret
      rw [HP.out, List.drop_length]
      exact ⟨rfl, rfl⟩
end Go.Proofs.YthgolbmngjdbeaaGreatDoor

/- Layer 6, the program's own way to cut a line: what it comes to, as mathematics. -/
namespace Go.Proofs.YthgolbmngjdbeaaGreatDoor
open Go.RowKit
set_option linter.unusedVariables false

/-- What stands ahead of the first #. -/
def cutH (l : List UInt8) : List UInt8 := l.takeWhile (fun c => decide (c ≠ 35))
theorem cutH_hash (r : List UInt8) : cutH (35 :: r) = [] := rfl
theorem cutH_other (c : UInt8) (r : List UInt8) (h : c ≠ 35) : cutH (c :: r) = c :: cutH r := by simp [cutH, h]
theorem cutH_len (l : List UInt8) : (cutH l).length ≤ l.length := by
  unfold cutH
  exact (List.takeWhile_sublist _).length_le
theorem pcs_cut : ∀ (l : List UInt8) (out : List (List UInt8)) (p : List UInt8), pcs l out p = pcs (cutH l) out p
  | [], _, _ => rfl
  | c :: r, out, p => by
    by_cases h : c = 35
    · subst h
      rw [cutH_hash]
      have e : ck 35 = 4 := rfl
      simp [pcs, e]
    · rw [cutH_other c r h]
      simp only [pcs]
      rw [pcs_cut r out (p ++ [c]), pcs_cut r (flushP out p ++ [ [c] ]) [], pcs_cut r (flushP out p) [] ]
theorem pieces_cut (l : List UInt8) : piecesL l = piecesL (cutH l) := pcs_cut l [] []
theorem pcs_flush (l : List UInt8) (out : List (List UInt8)) (p : List UInt8) (hp : p ≠ []) (h : l.length = 0 ∨ ck (l.getD 0 0) ≠ 3) : pcs l out p = pcs l (out ++ [p]) [] := by
  cases l with
  | nil => simp [pcs, flushP, hp]
  | cons c r =>
    have hc : ck c ≠ 3 := by
      rcases h with h | h
      · simp at h
      · simpa using h
    simp [pcs, flushP, hp, hc]
theorem drop_getD (l : List UInt8) (k : Nat) : (l.drop k).getD 0 0 = l.getD k 0 := by
  simp [List.getD]
end Go.Proofs.YthgolbmngjdbeaaGreatDoor

/- Layer 6, the program's own small questions of signs; strings.CutPrefix at what it is asked. -/
namespace Go.Proofs.YthgolbmngjdbeaaGreatDoor
open Go.RowKit
set_option linter.unusedVariables false

def letB (c : Int) : Bool := decide ((97 ≤ c ∧ c ≤ 122) ∨ (65 ≤ c ∧ c ≤ 90))
def dgB (c : Int) : Bool := decide (48 ≤ c ∧ c ≤ 57)

set_option maxHeartbeats 400000 in
theorem isDigit_any (c : Int) (w : World) (h0 : 0 ≤ c) (h1 : c < 256) :
    Calls Tryz.prog 63 #[.int .u8 c] w fun e w' => e = .returned (.bool (dgB c)) ∧ w' = w := by
  rcases (show c < 48 ∨ (48 ≤ c ∧ c ≤ 57) ∨ 57 < c by omega) with g | ⟨g, g'⟩ | g
  all_goals
    go_enter Tryz.func63, Tryz.ntmps63
    go_wp2
    go_ret
    refine ⟨ret_bool ?_, rfl⟩
    unfold dgB
    first | exact decide_eq_true (by omega) | exact decide_eq_false (by omega) | (rw [decide_eq_decide]; omega) | (rw [Bool.eq_iff_iff]; simp; omega)

set_option maxHeartbeats 400000 in
theorem isLetter_any (c : Int) (w : World) (h0 : 0 ≤ c) (h1 : c < 256) :
    Calls Tryz.prog 62 #[.int .u8 c] w fun e w' => e = .returned (.bool (letB c)) ∧ w' = w := by
  rcases (show c < 65 ∨ (65 ≤ c ∧ c ≤ 90) ∨ (90 < c ∧ c < 97) ∨ (97 ≤ c ∧ c ≤ 122) ∨ 122 < c by omega) with g | ⟨g, g'⟩ | ⟨g, g'⟩ | ⟨g, g'⟩ | g
  all_goals
    go_enter Tryz.func62, Tryz.ntmps62
    go_wp2
    go_ret
    refine ⟨ret_bool ?_, rfl⟩
    unfold letB
    first | exact decide_eq_true (by omega) | exact decide_eq_false (by omega) | (rw [decide_eq_decide]; omega) | (rw [Bool.eq_iff_iff]; simp; omega)

set_option maxHeartbeats 400000 in
theorem isBlank_any (c : Int) (w : World) (h0 : 0 ≤ c) (h1 : c < 256) :
    Calls Tryz.prog 34 #[.int .u8 c] w fun e w' => e = .returned (.bool (decide (skind c = 1))) ∧ w' = w := by
  have HS : Hid (decide (skind c = 1) = decide (c = 32 ∨ c = 9)) := by
    show decide (skind c = 1) = _
    rw [decide_eq_decide]
    unfold skind
    repeat' split
    all_goals omega
  by_cases g : c = 32 ∨ c = 9
  · rcases g with rfl | rfl
    all_goals
      go_enter Tryz.func34, Tryz.ntmps34
      go_wp2
      go_ret
      exact ⟨rfl, rfl⟩
  · have e32 : (c == 32) = false := by simp; omega
    have e9 : (c == 9) = false := by simp; omega
    have HN : Hid (decide (c = 32 ∨ c = 9) = false) := decide_eq_false g
    clear g
    go_enter Tryz.func34, Tryz.ntmps34
    go_wp2
    go_ret
    refine ⟨ret_bool ?_, rfl⟩
    rw [HS.out, HN.out]

set_option maxHeartbeats 400000 in
theorem isAlone_any (c : Int) (w : World) (h0 : 0 ≤ c) (h1 : c < 256) :
    Calls Tryz.prog 35 #[.int .u8 c] w fun e w' => e = .returned (.bool (decide (skind c = 2))) ∧ w' = w := by
  have HS : Hid (decide (skind c = 2) = decide (c = 44 ∨ c = 40 ∨ c = 41 ∨ c = 58)) := by
    show decide (skind c = 2) = _
    rw [decide_eq_decide]
    unfold skind
    repeat' split
    all_goals omega
  by_cases g : c = 44 ∨ c = 40 ∨ c = 41 ∨ c = 58
  · rcases g with rfl | rfl | rfl | rfl
    all_goals
      go_enter Tryz.func35, Tryz.ntmps35
      go_wp2
      go_ret
      exact ⟨rfl, rfl⟩
  · have e44 : (c == 44) = false := by simp; omega
    have e40 : (c == 40) = false := by simp; omega
    have e41 : (c == 41) = false := by simp; omega
    have e58 : (c == 58) = false := by simp; omega
    have HN : Hid (decide (c = 44 ∨ c = 40 ∨ c = 41 ∨ c = 58) = false) := decide_eq_false g
    clear g
    go_enter Tryz.func35, Tryz.ntmps35
    go_wp2
    go_ret
    refine ⟨ret_bool ?_, rfl⟩
    rw [HS.out, HN.out]

set_option maxHeartbeats 400000 in
theorem isPart6_any (c : Int) (w : World) (h0 : 0 ≤ c) (h1 : c < 256) :
    Calls Tryz.prog 36 #[.int .u8 c] w fun e w' => e = .returned (.bool (decide (skind c = 3))) ∧ w' = w := by
  have HL : Hid (∀ w, Calls Tryz.prog 62 #[.int .u8 c] w fun e w' => e = .returned (.bool (letB c)) ∧ w' = w) := fun w => isLetter_any c w h0 h1
  have HD : Hid (∀ w, Calls Tryz.prog 63 #[.int .u8 c] w fun e w' => e = .returned (.bool (dgB c)) ∧ w' = w) := fun w => isDigit_any c w h0 h1
  have HS : Hid (decide (skind c = 3) = (letB c || dgB c || decide (c = 95) || decide (c = 46) || decide (c = 45))) := by
    show decide (skind c = 3) = _
    rw [Bool.eq_iff_iff]
    unfold skind letB dgB
    simp only [Bool.or_eq_true, decide_eq_true_eq]
    repeat' split
    all_goals omega
  cases hl : letB c
  · cases hd : dgB c
    · by_cases g : c = 95 ∨ c = 46 ∨ c = 45
      · rcases g with rfl | rfl | rfl
        all_goals
          go_enter Tryz.func36, Tryz.ntmps36
          go_wp2_with (first | (go_at_call 62; refine (HL.out _).mono ?_; rw [hl]; rintro e w' ⟨rfl, hw⟩; have hw := hw.symm; subst hw) | (go_at_call 63; refine (HD.out _).mono ?_; rw [hd]; rintro e w' ⟨rfl, hw⟩; have hw := hw.symm; subst hw))
          go_ret
          exact ⟨rfl, rfl⟩
      · have e95 : (c == 95) = false := by simp; omega
        have e46 : (c == 46) = false := by simp; omega
        have e45 : (c == 45) = false := by simp; omega
        have HN : Hid (c ≠ 95 ∧ c ≠ 46 ∧ c ≠ 45) := ⟨by omega, by omega, by omega⟩
        clear g
        go_enter Tryz.func36, Tryz.ntmps36
        go_wp2_with (first | (go_at_call 62; refine (HL.out _).mono ?_; rw [hl]; rintro e w' ⟨rfl, hw⟩; have hw := hw.symm; subst hw) | (go_at_call 63; refine (HD.out _).mono ?_; rw [hd]; rintro e w' ⟨rfl, hw⟩; have hw := hw.symm; subst hw))
        go_ret
        refine ⟨ret_bool ?_, rfl⟩
        rw [HS.out, hl, hd, decide_eq_false HN.out.1, decide_eq_false HN.out.2.1, decide_eq_false HN.out.2.2]
        rfl
    · go_enter Tryz.func36, Tryz.ntmps36
      go_wp2_with (first | (go_at_call 62; refine (HL.out _).mono ?_; rw [hl]; rintro e w' ⟨rfl, hw⟩; have hw := hw.symm; subst hw) | (go_at_call 63; refine (HD.out _).mono ?_; rw [hd]; rintro e w' ⟨rfl, hw⟩; have hw := hw.symm; subst hw))
      go_ret
      refine ⟨ret_bool ?_, rfl⟩
      rw [HS.out, hl, hd]
      rfl
  · go_enter Tryz.func36, Tryz.ntmps36
    go_wp2_with (first | (go_at_call 62; refine (HL.out _).mono ?_; rw [hl]; rintro e w' ⟨rfl, hw⟩; have hw := hw.symm; subst hw))
    go_ret
    refine ⟨ret_bool ?_, rfl⟩
    rw [HS.out, hl]
    rfl

set_option maxHeartbeats 400000 in
theorem isName_any (l : List UInt8) (w : World) (hl : l.length ≤ 70000) :
    Calls Tryz.prog 51 #[.string (bs l)] w fun e w' => e = .returned (.bool (nameB l)) ∧ w' = w := by
  cases l with
  | nil =>
    have hnil : bs ([] : List UInt8) = ⟨#[]⟩ := rfl
    go_enter Tryz.func51, Tryz.ntmps51
    go_wp2
    go_ret
    exact ⟨rfl, rfl⟩
  | cons c r =>
    have hsz : (bs (c :: r)).size = r.length + 1 := bs_size _
    have hn : ((bs (c :: r)).toList == ByteArray.toList ⟨#[]⟩) = false := bs_ne (by simp)
    have hn' : ((bs (c :: r)).toList == []) = false := bs_ne' (by simp)
    have hs0 := sign_form (bs (c :: r)) 0
    have hC0 : signAt (bs (c :: r)) 0 = (c.toNat : Int) := sign_bs (c :: r) 0
    have hl' : r.length ≤ 70000 := by simp at hl; omega
    have HB : Hid (nameB (c :: r) = decide ((97 ≤ c.toNat ∧ c.toNat ≤ 122) ∨ (65 ≤ c.toNat ∧ c.toNat ≤ 90) ∨ c.toNat = 95)) := rfl
    have hlt := c.toNat_lt
    generalize bs (c :: r) = S at *
    generalize nameB (c :: r) = NB at *
    generalize signAt S 0 = C at *
    generalize c.toNat = N at *
    subst hC0
    clear hl
    have HL : Hid (∀ w, Calls Tryz.prog 62 #[.int .u8 N] w fun e w' => e = .returned (.bool (letB N)) ∧ w' = w) := fun w => isLetter_any N w (by omega) (by omega)
    have HX : Hid (NB = (letB N || decide (N = 95))) := by
      show NB = _
      rw [HB.out, Bool.eq_iff_iff]
      unfold letB
      simp only [Bool.or_eq_true, decide_eq_true_eq]
      omega
    cases hlb : letB N
    · by_cases h95 : N = 95
      · subst h95
        have HB2 : NB = true := by rw [HX.out]; rfl
        subst HB2
        go_enter Tryz.func51, Tryz.ntmps51
        go_wp2_with (first | (go_at_call 62; refine (HL.out _).mono ?_; rw [hlb]; rintro e w' ⟨rfl, hw⟩; have hw := hw.symm; subst hw))
        go_ret
        exact ⟨rfl, rfl⟩
      · have e95 : ((N : Int) == 95) = false := by simp; omega
        have HB2 : NB = false := by rw [HX.out, hlb, decide_eq_false h95]; rfl
        subst HB2
        go_enter Tryz.func51, Tryz.ntmps51
        go_wp2_with (first | (go_at_call 62; refine (HL.out _).mono ?_; rw [hlb]; rintro e w' ⟨rfl, hw⟩; have hw := hw.symm; subst hw))
        go_ret
        exact ⟨rfl, rfl⟩
    · have HB2 : NB = true := by rw [HX.out, hlb]; rfl
      subst HB2
      go_enter Tryz.func51, Tryz.ntmps51
      go_wp2_with (first | (go_at_call 62; refine (HL.out _).mono ?_; rw [hlb]; rintro e w' ⟨rfl, hw⟩; have hw := hw.symm; subst hw))
      go_ret
      exact ⟨rfl, rfl⟩
end Go.Proofs.YthgolbmngjdbeaaGreatDoor

/- What the language's own strings package does where layer 6 calls it: the shelf's contracts, laid for this translation. -/
namespace Go.Proofs.YthgolbmngjdbeaaGreatDoor
open Go.Shelf
set_option linter.unusedVariables false

def lays103_ren : Go.Shelf.Ren := ⟨fun | 103 => 77 | 210 => 95 | 206 => 103 | n => n, fun | 9 => 9 | 4 => 4 | 24 => 108 | 3 => 3 | n => n, fun | n => n⟩
theorem lays103 : Go.Proofs.Lays.n103 Tryz.prog lays103_ren := {
  mixed := by kernel_rfl
  f103 := Tryz.func77.trans (congrArg some (by kernel_rfl))
  f206 := Tryz.func103.trans (congrArg some (by kernel_rfl))
  f210 := Tryz.func95.trans (congrArg some (by kernel_rfl))
  t3 := Tryz.underlying3
  a3 := Tryz.isAgg3
  z3 := Tryz.sizeOf3
  v3 := Tryz.zeroValue3
  t4 := Tryz.underlying4
  a4 := Tryz.isAgg4
  z4 := Tryz.sizeOf4
  v4 := Tryz.zeroValue4
  t9 := Tryz.underlying9
  a9 := Tryz.isAgg9
  z9 := Tryz.sizeOf9
  v9 := Tryz.zeroValue9
  t24 := Tryz.underlying108
  a24 := Tryz.isAgg108
  z24 := Tryz.sizeOf108
  v24 := Tryz.zeroValue108 }

def lays219_ren : Go.Shelf.Ren := ⟨fun | 219 => 76 | 217 => 91 | 225 => 92 | 224 => 93 | 267 => 94 | 266 => 101 | 314 => 102 | n => n, fun | 9 => 9 | 3 => 3 | 4 => 4 | 5 => 5 | 46 => 122 | 146 => 140 | 51 => 27 | n => n, fun | 1 => 4 | n => n⟩
theorem lays219 : Go.Proofs.Lays.n219 Tryz.prog lays219_ren := {
  mixed := by kernel_rfl
  f217 := Tryz.func91.trans (congrArg some (by kernel_rfl))
  f219 := Tryz.func76.trans (congrArg some (by kernel_rfl))
  f224 := Tryz.func93.trans (congrArg some (by kernel_rfl))
  f225 := Tryz.func92.trans (congrArg some (by kernel_rfl))
  f266 := Tryz.func101.trans (congrArg some (by kernel_rfl))
  f267 := Tryz.func94.trans (congrArg some (by kernel_rfl))
  f314 := Tryz.func102.trans (congrArg some (by kernel_rfl))
  t3 := Tryz.underlying3
  a3 := Tryz.isAgg3
  z3 := Tryz.sizeOf3
  v3 := Tryz.zeroValue3
  t4 := Tryz.underlying4
  a4 := Tryz.isAgg4
  z4 := Tryz.sizeOf4
  v4 := Tryz.zeroValue4
  t5 := Tryz.underlying5
  a5 := Tryz.isAgg5
  z5 := Tryz.sizeOf5
  v5 := Tryz.zeroValue5
  t9 := Tryz.underlying9
  a9 := Tryz.isAgg9
  z9 := Tryz.sizeOf9
  v9 := Tryz.zeroValue9
  t46 := Tryz.underlying122
  a46 := Tryz.isAgg122
  z46 := Tryz.sizeOf122
  v46 := Tryz.zeroValue122
  t51 := Tryz.underlying27
  a51 := Tryz.isAgg27
  z51 := Tryz.sizeOf27
  v51 := Tryz.zeroValue27
  t146 := Tryz.underlying140
  a146 := Tryz.isAgg140
  z146 := Tryz.sizeOf140
  v146 := Tryz.zeroValue140
  g1 := by kernel_rfl }

def lays143_ren : Go.Shelf.Ren := ⟨fun | 143 => 50 | 219 => 76 | 217 => 91 | 225 => 92 | 224 => 93 | 267 => 94 | 266 => 101 | 314 => 102 | n => n, fun | 9 => 9 | 3 => 3 | 4 => 4 | 5 => 5 | 46 => 122 | 146 => 140 | 51 => 27 | n => n, fun | 1 => 4 | n => n⟩
theorem lays143 : Go.Proofs.Lays.n143 Tryz.prog lays143_ren := {
  mixed := by kernel_rfl
  f143 := Tryz.func50.trans (congrArg some (by kernel_rfl))
  f217 := Tryz.func91.trans (congrArg some (by kernel_rfl))
  f219 := Tryz.func76.trans (congrArg some (by kernel_rfl))
  f224 := Tryz.func93.trans (congrArg some (by kernel_rfl))
  f225 := Tryz.func92.trans (congrArg some (by kernel_rfl))
  f266 := Tryz.func101.trans (congrArg some (by kernel_rfl))
  f267 := Tryz.func94.trans (congrArg some (by kernel_rfl))
  f314 := Tryz.func102.trans (congrArg some (by kernel_rfl))
  t3 := Tryz.underlying3
  a3 := Tryz.isAgg3
  z3 := Tryz.sizeOf3
  v3 := Tryz.zeroValue3
  t4 := Tryz.underlying4
  a4 := Tryz.isAgg4
  z4 := Tryz.sizeOf4
  v4 := Tryz.zeroValue4
  t5 := Tryz.underlying5
  a5 := Tryz.isAgg5
  z5 := Tryz.sizeOf5
  v5 := Tryz.zeroValue5
  t9 := Tryz.underlying9
  a9 := Tryz.isAgg9
  z9 := Tryz.sizeOf9
  v9 := Tryz.zeroValue9
  t46 := Tryz.underlying122
  a46 := Tryz.isAgg122
  z46 := Tryz.sizeOf122
  v46 := Tryz.zeroValue122
  t51 := Tryz.underlying27
  a51 := Tryz.isAgg27
  z51 := Tryz.sizeOf27
  v51 := Tryz.zeroValue27
  t146 := Tryz.underlying140
  a146 := Tryz.isAgg140
  z146 := Tryz.sizeOf140
  v146 := Tryz.zeroValue140
  g1 := by kernel_rfl }

def lays138_ren : Go.Shelf.Ren := ⟨fun | 138 => 49 | 195 => 73 | 218 => 75 | 143 => 50 | 219 => 76 | 217 => 91 | 225 => 92 | 224 => 93 | 267 => 94 | 266 => 101 | 314 => 102 | n => n, fun | 9 => 9 | 3 => 3 | 4 => 4 | 5 => 5 | 0 => 0 | 46 => 122 | 146 => 140 | 51 => 27 | n => n, fun | 1 => 4 | n => n⟩
theorem lays138 : Go.Proofs.Lays.n138 Tryz.prog lays138_ren := {
  mixed := by kernel_rfl
  f138 := Tryz.func49.trans (congrArg some (by kernel_rfl))
  f143 := Tryz.func50.trans (congrArg some (by kernel_rfl))
  f195 := Tryz.func73.trans (congrArg some (by kernel_rfl))
  f217 := Tryz.func91.trans (congrArg some (by kernel_rfl))
  f218 := Tryz.func75.trans (congrArg some (by kernel_rfl))
  f219 := Tryz.func76.trans (congrArg some (by kernel_rfl))
  f224 := Tryz.func93.trans (congrArg some (by kernel_rfl))
  f225 := Tryz.func92.trans (congrArg some (by kernel_rfl))
  f266 := Tryz.func101.trans (congrArg some (by kernel_rfl))
  f267 := Tryz.func94.trans (congrArg some (by kernel_rfl))
  f314 := Tryz.func102.trans (congrArg some (by kernel_rfl))
  t0 := Tryz.underlying0
  a0 := Tryz.isAgg0
  z0 := Tryz.sizeOf0
  v0 := Tryz.zeroValue0
  t3 := Tryz.underlying3
  a3 := Tryz.isAgg3
  z3 := Tryz.sizeOf3
  v3 := Tryz.zeroValue3
  t4 := Tryz.underlying4
  a4 := Tryz.isAgg4
  z4 := Tryz.sizeOf4
  v4 := Tryz.zeroValue4
  t5 := Tryz.underlying5
  a5 := Tryz.isAgg5
  z5 := Tryz.sizeOf5
  v5 := Tryz.zeroValue5
  t9 := Tryz.underlying9
  a9 := Tryz.isAgg9
  z9 := Tryz.sizeOf9
  v9 := Tryz.zeroValue9
  t46 := Tryz.underlying122
  a46 := Tryz.isAgg122
  z46 := Tryz.sizeOf122
  v46 := Tryz.zeroValue122
  t51 := Tryz.underlying27
  a51 := Tryz.isAgg27
  z51 := Tryz.sizeOf27
  v51 := Tryz.zeroValue27
  t146 := Tryz.underlying140
  a146 := Tryz.isAgg140
  z146 := Tryz.sizeOf140
  v146 := Tryz.zeroValue140
  g1 := by kernel_rfl }

def lays221_ren : Go.Shelf.Ren := ⟨fun | 221 => 20 | 268 => 48 | 138 => 49 | 143 => 50 | 195 => 73 | 197 => 74 | 218 => 75 | 219 => 76 | 260 => 90 | 217 => 91 | 225 => 92 | 224 => 93 | 267 => 94 | 266 => 101 | 314 => 102 | n => n, fun | 9 => 9 | 3 => 3 | 31 => 37 | 4 => 4 | 0 => 0 | 105 => 105 | 21 => 21 | 5 => 5 | 46 => 122 | 119 => 98 | 139 => 139 | 138 => 138 | 146 => 140 | 51 => 27 | n => n, fun | 1 => 4 | 3 => 6 | 4 => 7 | n => n⟩
theorem lays221 : Go.Proofs.Lays.n221 Tryz.prog lays221_ren := {
  mixed := by kernel_rfl
  f138 := Tryz.func49.trans (congrArg some (by kernel_rfl))
  f143 := Tryz.func50.trans (congrArg some (by kernel_rfl))
  f195 := Tryz.func73.trans (congrArg some (by kernel_rfl))
  f197 := Tryz.func74.trans (congrArg some (by kernel_rfl))
  f217 := Tryz.func91.trans (congrArg some (by kernel_rfl))
  f218 := Tryz.func75.trans (congrArg some (by kernel_rfl))
  f219 := Tryz.func76.trans (congrArg some (by kernel_rfl))
  f221 := Tryz.func20.trans (congrArg some (by kernel_rfl))
  f224 := Tryz.func93.trans (congrArg some (by kernel_rfl))
  f225 := Tryz.func92.trans (congrArg some (by kernel_rfl))
  f260 := Tryz.func90.trans (congrArg some (by kernel_rfl))
  f266 := Tryz.func101.trans (congrArg some (by kernel_rfl))
  f267 := Tryz.func94.trans (congrArg some (by kernel_rfl))
  f268 := Tryz.func48.trans (congrArg some (by kernel_rfl))
  f314 := Tryz.func102.trans (congrArg some (by kernel_rfl))
  t0 := Tryz.underlying0
  a0 := Tryz.isAgg0
  z0 := Tryz.sizeOf0
  v0 := Tryz.zeroValue0
  t3 := Tryz.underlying3
  a3 := Tryz.isAgg3
  z3 := Tryz.sizeOf3
  v3 := Tryz.zeroValue3
  t4 := Tryz.underlying4
  a4 := Tryz.isAgg4
  z4 := Tryz.sizeOf4
  v4 := Tryz.zeroValue4
  t5 := Tryz.underlying5
  a5 := Tryz.isAgg5
  z5 := Tryz.sizeOf5
  v5 := Tryz.zeroValue5
  t9 := Tryz.underlying9
  a9 := Tryz.isAgg9
  z9 := Tryz.sizeOf9
  v9 := Tryz.zeroValue9
  t21 := Tryz.underlying21
  a21 := Tryz.isAgg21
  z21 := Tryz.sizeOf21
  v21 := Tryz.zeroValue21
  t31 := Tryz.underlying37
  a31 := Tryz.isAgg37
  z31 := Tryz.sizeOf37
  v31 := Tryz.zeroValue37
  t46 := Tryz.underlying122
  a46 := Tryz.isAgg122
  z46 := Tryz.sizeOf122
  v46 := Tryz.zeroValue122
  t51 := Tryz.underlying27
  a51 := Tryz.isAgg27
  z51 := Tryz.sizeOf27
  v51 := Tryz.zeroValue27
  t105 := Tryz.underlying105
  a105 := Tryz.isAgg105
  z105 := Tryz.sizeOf105
  v105 := Tryz.zeroValue105
  t119 := Tryz.underlying98
  a119 := Tryz.isAgg98
  z119 := Tryz.sizeOf98
  t138 := Tryz.underlying138
  a138 := Tryz.isAgg138
  z138 := Tryz.sizeOf138
  v138 := Tryz.zeroValue138
  t139 := Tryz.underlying139
  a139 := Tryz.isAgg139
  z139 := Tryz.sizeOf139
  v139 := Tryz.zeroValue139
  t146 := Tryz.underlying140
  a146 := Tryz.isAgg140
  z146 := Tryz.sizeOf140
  v146 := Tryz.zeroValue140
  g1 := by kernel_rfl
  g3 := by kernel_rfl
  g4 := by kernel_rfl }

def lays157_ren : Go.Shelf.Ren := ⟨fun | 157 => 38 | 229 => 64 | 199 => 65 | 261 => 87 | 311 => 99 | 312 => 100 | n => n, fun | 9 => 9 | 31 => 37 | 3 => 3 | 5 => 5 | 4 => 4 | 119 => 98 | 0 => 0 | 40 => 100 | 152 => 117 | 21 => 21 | 154 => 119 | 51 => 27 | 141 => 121 | 196 => 129 | 193 => 126 | 198 => 132 | 49 => 130 | 194 => 127 | 201 => 135 | 226 => 143 | 46 => 122 | 227 => 144 | n => n, fun | 0 => 1 | 6 => 3 | n => n⟩
theorem lays157 : Go.Proofs.Lays.n157 Tryz.prog lays157_ren := {
  mixed := by kernel_rfl
  f157 := Tryz.func38.trans (congrArg some (by kernel_rfl))
  f199 := Tryz.func65.trans (congrArg some (by kernel_rfl))
  f229 := Tryz.func64.trans (congrArg some (by kernel_rfl))
  f261 := Tryz.func87.trans (congrArg some (by kernel_rfl))
  f311 := Tryz.func99.trans (congrArg some (by kernel_rfl))
  f312 := Tryz.func100.trans (congrArg some (by kernel_rfl))
  t0 := Tryz.underlying0
  a0 := Tryz.isAgg0
  z0 := Tryz.sizeOf0
  v0 := Tryz.zeroValue0
  t3 := Tryz.underlying3
  a3 := Tryz.isAgg3
  z3 := Tryz.sizeOf3
  v3 := Tryz.zeroValue3
  t4 := Tryz.underlying4
  a4 := Tryz.isAgg4
  z4 := Tryz.sizeOf4
  v4 := Tryz.zeroValue4
  t5 := Tryz.underlying5
  a5 := Tryz.isAgg5
  z5 := Tryz.sizeOf5
  v5 := Tryz.zeroValue5
  t9 := Tryz.underlying9
  a9 := Tryz.isAgg9
  z9 := Tryz.sizeOf9
  v9 := Tryz.zeroValue9
  t21 := Tryz.underlying21
  a21 := Tryz.isAgg21
  z21 := Tryz.sizeOf21
  v21 := Tryz.zeroValue21
  t31 := Tryz.underlying37
  a31 := Tryz.isAgg37
  z31 := Tryz.sizeOf37
  v31 := Tryz.zeroValue37
  t40 := Tryz.underlying100
  a40 := Tryz.isAgg100
  z40 := Tryz.sizeOf100
  v40 := Tryz.zeroValue100
  t46 := Tryz.underlying122
  a46 := Tryz.isAgg122
  z46 := Tryz.sizeOf122
  v46 := Tryz.zeroValue122
  t49 := Tryz.underlying130
  a49 := Tryz.isAgg130
  z49 := Tryz.sizeOf130
  v49 := Tryz.zeroValue130
  t51 := Tryz.underlying27
  a51 := Tryz.isAgg27
  z51 := Tryz.sizeOf27
  v51 := Tryz.zeroValue27
  t119 := Tryz.underlying98
  a119 := Tryz.isAgg98
  z119 := Tryz.sizeOf98
  t141 := Tryz.underlying121
  a141 := Tryz.isAgg121
  z141 := Tryz.sizeOf121
  v141 := Tryz.zeroValue121
  t152 := Tryz.underlying117
  a152 := Tryz.isAgg117
  z152 := Tryz.sizeOf117
  v152 := Tryz.zeroValue117
  t154 := Tryz.underlying119
  a154 := Tryz.isAgg119
  z154 := Tryz.sizeOf119
  v154 := Tryz.zeroValue119
  t193 := Tryz.underlying126
  a193 := Tryz.isAgg126
  z193 := Tryz.sizeOf126
  v193 := Tryz.zeroValue126
  t194 := Tryz.underlying127
  a194 := Tryz.isAgg127
  z194 := Tryz.sizeOf127
  v194 := Tryz.zeroValue127
  t196 := Tryz.underlying129
  a196 := Tryz.isAgg129
  z196 := Tryz.sizeOf129
  v196 := Tryz.zeroValue129
  t198 := Tryz.underlying132
  a198 := Tryz.isAgg132
  z198 := Tryz.sizeOf132
  v198 := Tryz.zeroValue132
  t201 := Tryz.underlying135
  a201 := Tryz.isAgg135
  z201 := Tryz.sizeOf135
  v201 := Tryz.zeroValue135
  t226 := Tryz.underlying143
  a226 := Tryz.isAgg143
  z226 := Tryz.sizeOf143
  v226 := Tryz.zeroValue143
  t227 := Tryz.underlying144
  a227 := Tryz.isAgg144
  z227 := Tryz.sizeOf144
  v227 := Tryz.zeroValue144
  g0 := by kernel_rfl
  g6 := by kernel_rfl }
end Go.Proofs.YthgolbmngjdbeaaGreatDoor

/- Layer 6: strings.CutPrefix, Cut, Split and Fields where the program calls them, over lists of signs. -/
namespace Go.Proofs.YthgolbmngjdbeaaGreatDoor
open Go.RowKit
set_option linter.unusedVariables false

/-- The library's table of blanks lies as it was laid. -/
def SpTab (w : World) : Prop := Lib.TabIs Tryz.prog w "strings.asciiSpace" .u8 Lib.asciiSpaceTab
theorem spTab_below {w w' : World} (h : SpTab w) (hb : Below w.heap.size w w') : SpTab w' := Lib.tabBelow_of_tabIs h w' hb
def spL : List Int := [0, 0, 0, 0, 0, 0, 0, 0, 0, 1, 1, 1, 1, 1, 0, 0, 0, 0, 0, 0, 0, 0, 0, 0, 0, 0, 0, 0, 0, 0, 0, 0, 1, 0, 0, 0, 0, 0, 0, 0, 0, 0, 0, 0, 0, 0, 0, 0, 0, 0, 0, 0, 0, 0, 0, 0, 0, 0, 0, 0, 0, 0, 0, 0, 0, 0, 0, 0, 0, 0, 0, 0, 0, 0, 0, 0, 0, 0, 0, 0, 0, 0, 0, 0, 0, 0, 0, 0, 0, 0, 0, 0, 0, 0, 0, 0, 0, 0, 0, 0, 0, 0, 0, 0, 0, 0, 0, 0, 0, 0, 0, 0, 0, 0, 0, 0, 0, 0, 0, 0, 0, 0, 0, 0, 0, 0, 0, 0, 0, 0, 0, 0, 0, 0, 0, 0, 0, 0, 0, 0, 0, 0, 0, 0, 0, 0, 0, 0, 0, 0, 0, 0, 0, 0, 0, 0, 0, 0, 0, 0, 0, 0, 0, 0, 0, 0, 0, 0, 0, 0, 0, 0, 0, 0, 0, 0, 0, 0, 0, 0, 0, 0, 0, 0, 0, 0, 0, 0, 0, 0, 0, 0, 0, 0, 0, 0, 0, 0, 0, 0, 0, 0, 0, 0, 0, 0, 0, 0, 0, 0, 0, 0, 0, 0, 0, 0, 0, 0, 0, 0, 0, 0, 0, 0, 0, 0, 0, 0, 0, 0, 0, 0, 0, 0, 0, 0, 0, 0, 0, 0, 0, 0, 0, 0, 0, 0, 0, 0, 0, 0, 0, 0, 0, 0, 0, 0]
theorem spL_eq : spL = Lib.asciiSpaceTab := by decide +kernel
theorem spTab_of_laid {l : List (String × DataW Unit)} {W : World} (h : laidMetH Tryz.prog l W) (hp : (l.all fun x => x.2.handleName?.isNone) = true) (hm : ("strings.asciiSpace", Lib.tabData .u8 spL) ∈ l) : SpTab W := by
  rw [MakeChecks.laidMetH_plain _ _ _ hp] at h
  obtain ⟨ps, hv, _⟩ := h
  obtain ⟨g, t, cs, fuel, p, h1, h2, h3, h4⟩ := laid_mem hv hm
  obtain rfl : t = 98 := by
    obtain rfl := Option.some.inj ((show Tryz.prog.globalNamed "strings.asciiSpace" = some 1 by kernel_rfl).symm.trans h1)
    exact Option.some.inj (h2.symm.trans (show (Tryz.prog.globals[1]?).map (·.type) = some 98 by kernel_rfl))
  have hcs := Lib.cells_of_tab Tryz.underlying98 Tryz.underlying5 (by kernel_rfl) (by kernel_rfl) h4
  unfold SpTab Lib.TabIs
  rw [h3, ← spL_eq, ← hcs]

/-! CutPrefix -/

theorem cutp_any (l p : List UInt8) (w : World) : Calls Tryz.prog 77 #[.string (bs l), .string (bs p)] w fun e w' => e = .returned (.tuple #[.string (bs (Lib.trimPrefix l p)), .bool (Lib.hasPrefix l p)]) ∧ w' = w :=
  Any.strings_CutPrefix lays103 (bs l) (bs p) w

/-- A prefix of one sign. -/
theorem pre1_yes (c : UInt8) (r : List UInt8) : Lib.hasPrefix (c :: r) [c] = true ∧ Lib.trimPrefix (c :: r) [c] = r := by
  have h : Lib.hasPrefix (c :: r) [c] = true := by simp [Lib.hasPrefix, List.isPrefixOf]
  exact ⟨h, by unfold Lib.trimPrefix; rw [if_pos h]; rfl⟩
theorem pre1_no (c : UInt8) (l : List UInt8) (h : ¬ (0 < l.length ∧ l.getD 0 0 = c)) : Lib.hasPrefix l [c] = false ∧ Lib.trimPrefix l [c] = l := by
  have h' : Lib.hasPrefix l [c] = false := by
    cases l with
    | nil => rfl
    | cons d r =>
      simp only [List.length_cons, List.getD_cons_zero] at h
      have hd : c ≠ d := fun e => h ⟨Nat.succ_pos _, e.symm⟩
      simp [Lib.hasPrefix, List.isPrefixOf, hd]
  exact ⟨h', by unfold Lib.trimPrefix; rw [h']; rfl⟩
theorem pre2_yes (c d : UInt8) (r : List UInt8) : Lib.hasPrefix (c :: d :: r) [c, d] = true ∧ Lib.trimPrefix (c :: d :: r) [c, d] = r := by
  have h : Lib.hasPrefix (c :: d :: r) [c, d] = true := by simp [Lib.hasPrefix, List.isPrefixOf]
  exact ⟨h, by unfold Lib.trimPrefix; rw [if_pos h]; rfl⟩
theorem pre2_no (c d : UInt8) (l : List UInt8) (h : ¬ (2 ≤ l.length ∧ l.getD 0 0 = c ∧ l.getD 1 0 = d)) : Lib.hasPrefix l [c, d] = false ∧ Lib.trimPrefix l [c, d] = l := by
  have h' : Lib.hasPrefix l [c, d] = false := by
    match l, h with
    | [], _ => rfl
    | [x], _ => simp [Lib.hasPrefix, List.isPrefixOf]
    | x :: y :: r, h =>
      have hd : ¬ (c = x ∧ d = y) := fun e => h ⟨by simp, by simp [e.1], by simp [e.2]⟩
      simp only [Lib.hasPrefix, List.isPrefixOf, Bool.and_true, Bool.and_eq_false_iff, beq_eq_false_iff_ne]
      by_cases e : c = x
      · exact .inr fun g => hd ⟨e, g⟩
      · exact .inl e
  exact ⟨h', by unfold Lib.trimPrefix; rw [h']; rfl⟩

/-! Cut -/

theorem idx_cut : ∀ l : List UInt8, (Lib.indexByte l 35 = -1 ∧ cutH l = l) ∨ ∃ i : Nat, Lib.indexByte l 35 = i ∧ i < l.length ∧ cutH l = l.take i
  | [] => .inl ⟨rfl, rfl⟩
  | c :: r => by
    by_cases h : c = 35
    · subst h
      exact .inr ⟨0, rfl, by simp, rfl⟩
    · rw [cutH_other c r h]
      have hb : (c == 35) = false := by simpa using h
      rcases idx_cut r with ⟨a, b⟩ | ⟨i, a, b, d⟩
      · exact .inl ⟨by simp [Lib.indexByte, hb, a], by rw [b]⟩
      · refine .inr ⟨i + 1, ?_, by simp; omega, by rw [d]; rfl⟩
        simp only [Lib.indexByte, hb, a]
        have : ((i : Int) == -1) = false := by rw [beq_eq_false_iff_ne]; omega
        rw [this]
        simp

set_option maxHeartbeats 1000000 in
theorem lcut_any (l : List UInt8) (w : World) (hl : l.length ≤ 70000) :
    Calls Tryz.prog 61 #[.string (bs l), .string ⟨#[35]⟩] w fun e w' => ∃ x b, e = .returned (.tuple #[.string (bs (cutH l)), .string x, .bool b]) ∧ Q w w' := by
  have hsz : (bs l).size = l.length := bs_size l
  have HI : Hid (∀ w, Calls Tryz.prog 76 #[.string (bs l), .string ⟨#[35]⟩] w fun e w' => e = .returned (.int .i64 (Lib.indexByte l 35)) ∧ w' = w) := fun w => Any.stringslite_Index_one lays219 (bs l) 35 w
  rcases idx_cut l with ⟨hi, hc⟩ | ⟨i, hi, hlt, hc⟩
  · have HC : Hid (cutH l = l) := hc
    clear hc
    go_enter Tryz.func61, Tryz.ntmps61
    go_wp2_with (go_at_call 76; refine (HI.out _).mono ?_; rw [hi]; rintro e w' ⟨rfl, hw⟩; have hw := hw.symm; subst hw)
    go_ret3
    rw [HC.out]
    exact ⟨_, _, rfl, Q.refl _⟩
  · have HC : Hid (cutH l = l.take i) := hc
    clear hc
    have hx : (bs l).extract 0 i = bs (l.take i) := by
      have := cut_bs l 0 i
      rw [this]; unfold curL; simp
    go_enter Tryz.func61, Tryz.ntmps61
    go_wp2_with (go_at_call 76; refine (HI.out _).mono ?_; rw [hi]; rintro e w' ⟨rfl, hw⟩; have hw := hw.symm; subst hw)
    go_quiet (fail)
    go_wp2
    go_ret3
    rw [HC.out, ← hx]
    exact ⟨_, _, rfl, _, rfl⟩

set_option maxHeartbeats 400000 in
theorem cut_any (l : List UInt8) (w : World) (hl : l.length ≤ 70000) :
    Calls Tryz.prog 33 #[.string (bs l), .string ⟨#[35]⟩] w fun e w' => ∃ x b, e = .returned (.tuple #[.string (bs (cutH l)), .string x, .bool b]) ∧ Q w w' := by
  go_enter Tryz.func33, Tryz.ntmps33
  go_wp2_with (go_at_call 61; refine (lcut_any l _ hl).mono ?_; rintro e w' ⟨x, b, rfl, hq⟩)
  go_ret3
  exact ⟨_, _, rfl, hq⟩
end Go.Proofs.YthgolbmngjdbeaaGreatDoor

/- Layer 6: the document's own Number. -/
namespace Go.Proofs.YthgolbmngjdbeaaGreatDoor
open Go.RowKit
set_option linter.unusedVariables false

/-- One to eight hexadecimal digits; -1: they are none. -/
def hexN (l : List UInt8) : Int := if 1 ≤ l.length ∧ l.length ≤ 8 ∧ (∀ i, i < l.length → 0 ≤ digVal (signAt (bs l) i)) then valTo (signAt (bs l)) l.length else -1
theorem hexN_lt (l : List UInt8) : -1 ≤ hexN l ∧ hexN l < 4294967296 := by
  unfold hexN
  split
  · rename_i h
    have a := valTo_bd (signAt (bs l)) l.length h.2.2
    have b := pw_le (4 * l.length) 32 (by omega)
    rw [pw_32] at b
    omega
  · omega

theorem runhex_any (l : List UInt8) (w : World) (hl : l.length ≤ 70000) :
    Calls Tryz.prog 55 #[.string (bs l)] w fun e w' => ∃ (x : Int) (b : Bool), e = .returned (.tuple #[.int .u32 x, .bool b]) ∧ (if b then x else -1) = hexN l ∧ 0 ≤ x ∧ x < 4294967296 ∧ w' = w := by
  have hsz : (bs l).size = l.length := bs_size l
  by_cases h : 1 ≤ l.length ∧ l.length ≤ 8
  · by_cases hd : ∀ i, i < l.length → 0 ≤ digVal (signAt (bs l) i)
    · refine (runhex_yes (bs l) w (by omega) (by omega) (fun i hi => hd i (by omega))).mono ?_
      rintro e w' ⟨rfl, rfl⟩
      have hx := hexN_lt l
      have e : hexN l = valTo (signAt (bs l)) l.length := by
        unfold hexN; rw [if_pos ⟨h.1, h.2, hd⟩]
      have b0 := (valTo_bd (signAt (bs l)) l.length hd).1
      refine ⟨_, true, rfl, ?_, ?_, ?_, rfl⟩
      · rw [hsz, e]; rfl
      · rw [hsz]; exact b0
      · rw [hsz]; omega
    · obtain ⟨j, hj⟩ := Classical.not_forall.1 hd
      have hj1 : j < l.length := Classical.byContradiction fun g => hj fun g' => absurd g' g
      have hj2 : digVal (signAt (bs l) j) < 0 := by
        have := fun g => hj fun _ => g
        omega
      refine (runhex_bad (bs l) w (by omega) (by omega) j (by omega) hj2).mono ?_
      rintro e w' ⟨rfl, rfl⟩
      have e : hexN l = -1 := by
        unfold hexN
        rw [if_neg (fun g => hd g.2.2)]
      exact ⟨0, false, rfl, by rw [e]; rfl, by omega, by omega, rfl⟩
  · refine (runhex_short (bs l) w (by unfold maxLen; omega) (by omega)).mono ?_
    rintro e w' ⟨rfl, rfl⟩
    have e : hexN l = -1 := by
      unfold hexN
      rw [if_neg (fun g => h ⟨g.1, g.2.1⟩)]
    exact ⟨0, false, rfl, by rw [e]; rfl, by omega, by omega, rfl⟩

set_option maxHeartbeats 400000 in
theorem rwordOf_any (n : Int) (w : World) (h0 : -9223372036854775808 ≤ n) (h1 : n < 9223372036854775808) :
    Calls Tryz.prog 31 #[.int .i64 n] w fun e w' => e = .returned (.int .u32 (n % 4294967296)) ∧ w' = w := by
  go_enter Tryz.func31, Tryz.ntmps31
  go_wp2
  go_ret
  refine ⟨ret_int ?_, rfl⟩
  rw [show IntKind.u64.wrap n = n % 18446744073709551616 from by rw [IntKind.wrap_u64], Int.tmod_eq_emod_of_nonneg (by omega)]
  omega

/-- The number behind a sign, or without one. -/
def magN (t : List UInt8) : Int := if 2 < t.length ∧ t.getD 0 0 = 48 ∧ t.getD 1 0 = 120 then hexN (t.drop 2) else digN t
theorem magN_lt (t : List UInt8) : -1 ≤ magN t ∧ magN t < 10000000000 := by
  unfold magN
  have := hexN_lt (t.drop 2)
  have := digN_lt t
  split <;> omega

/-- Does it begin with a minus? -/
def lessB (l : List UInt8) : Bool := decide (0 < l.length ∧ l.getD 0 0 = 45)
def cvtN (less : Bool) (n : Int) : Option Int := if n < 0 ∨ 4294967295 < n ∨ (less = true ∧ 2147483648 < n) then none else some ((if less then 0 - n else n) % 4294967296)
def numW (l : List UInt8) : Option Int := if lessB l then cvtN true (magN (l.drop 1)) else cvtN false (magN l)
theorem byte_is (x : UInt8) (n : Nat) (hn : n < 256) (h : x.toNat = n) : x = UInt8.ofNat n := by
  apply UInt8.toNat_inj.1
  rw [UInt8.toNat_ofNat', h]
  omega
end Go.Proofs.YthgolbmngjdbeaaGreatDoor
