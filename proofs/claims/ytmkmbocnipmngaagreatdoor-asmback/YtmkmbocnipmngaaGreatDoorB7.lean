/- My texts DecImm, DecPut, DisText0, DisText1, DisText2, DisText3a, DisText3b, DisText4, DisText5, DisText6, DisText7, DisText8, DisText9, DecRef, DecRefDec, DisTextAll, DisProg, AsmEndB, bound into one. -/
import Derived.Test.YtmkmbocnipmngaaGreatDoorB4
import Derived.Test.YtmkmbocnipmngaaGreatDoorB1
import Derived.Test.YtmkmbocnipmngaaGreatDoorB6
import Derived.Test.YtmkmbocnipmngaaGreatDoorB2
import Derived.Lib.Builder
/- Layer 3: what immOf and csrOf answer of any word and form. -/
namespace Go.Proofs.YtmkmbocnipmngaaGreatDoor
open Go.RowKit
set_option linter.unusedVariables false

theorem u32_or_add (a b : Int) (i : Nat) (ha0 : 0 ≤ a) (ha1 : a < 4294967296) (hb0 : 0 ≤ b) (hb1 : b < 4294967296) (hm : a % ((2 ^ i : Nat) : Int) = 0) (hl : b < ((2 ^ i : Nat) : Int)) : bits .or .u32 a b = a + b := by
  obtain ⟨A, rfl⟩ := Int.eq_ofNat_of_zero_le ha0
  obtain ⟨B, rfl⟩ := Int.eq_ofNat_of_zero_le hb0
  rw [u32_or_nat A B (by omega) (by omega)]
  have hm' : A % 2 ^ i = 0 := by exact_mod_cast hm
  have hl' : B < 2 ^ i := by exact_mod_cast hl
  obtain ⟨q, rfl⟩ : ∃ q, A = 2 ^ i * q := ⟨A / 2 ^ i, by have := Nat.div_add_mod A (2 ^ i); omega⟩
  rw [← Nat.two_pow_add_eq_or_of_lt hl' q]
  simp

theorem u_val (x : Int) (h0 : 0 ≤ x) (h1 : x < 4294967296) : bits .andNot .u32 x 4095 = bitsOf x 12 20 * 4096 := by
  obtain ⟨X, rfl⟩ := Int.eq_ofNat_of_zero_le h0
  have e := u32_andNot_nat X 4095 (by omega) (by omega)
  have j := joint_and 12 (X / 2 ^ 12) (X % 2 ^ 12) 1048575 0 (Nat.mod_lt _ (by decide)) (by decide)
  rw [Nat.div_add_mod X (2 ^ 12)] at j
  have k := Nat.and_two_pow_sub_one_eq_mod (X / 2 ^ 12) 20
  rw [show (2 : Nat) ^ 20 - 1 = 1048575 from rfl] at k
  rw [k, show 2 ^ 12 * 1048575 + 0 = 4294967295 - 4095 from rfl] at j
  rw [j] at e
  refine Eq.trans e ?_
  rw [bo_12_20]
  simp only [Nat.and_zero]
  omega

theorem sgn_31 (x : Int) (h0 : 0 ≤ x) (h1 : x < 4294967296) : sgnOf x 31 = bitsOf x 31 1 * 4294967295 := by
  rw [bo_31_1]
  show signedOf x / 2147483648 % 4294967296 = _
  unfold signedOf; split <;> omega
theorem sgn_20 (x : Int) (h0 : 0 ≤ x) (h1 : x < 4294967296) : sgnOf x 20 = extOf (bitsOf x 20 12) 12 := by
  rw [bo_20_12, ext_12]
  show signedOf x / 1048576 % 4294967296 = _
  unfold signedOf; split <;> split <;> omega
theorem sgn_25 (x : Int) (h0 : 0 ≤ x) (h1 : x < 4294967296) : sgnOf x 25 = if bitsOf x 25 7 < 64 then bitsOf x 25 7 else bitsOf x 25 7 + 4294967168 := by
  rw [bo_25_7]
  show signedOf x / 33554432 % 4294967296 = _
  unfold signedOf; split <;> split <;> omega

theorem j_val (x : Int) (h0 : 0 ≤ x) (h1 : x < 4294967296) : bits .or .u32 (bits .or .u32 (bits .or .u32 (sgnOf x 31 * 1048576 % 4294967296) (bitsOf x 12 8 * 4096 % 4294967296)) (bitsOf x 20 1 * 2048 % 4294967296)) (bitsOf x 21 10 * 2 % 4294967296) = immOf x 2 := by
  rw [sgn_31 x h0 h1]
  show _ = extOf (((bitsOf x 31 1 * 256 + bitsOf x 12 8) * 2 + bitsOf x 20 1) * 2048 + bitsOf x 21 10 * 2) 21
  have a := b1 x 31; have b := b8 x 12; have c := b1 x 20; have d := b10 x 21
  generalize bitsOf x 31 1 = A at *; generalize bitsOf x 12 8 = B at *; generalize bitsOf x 20 1 = C at *; generalize bitsOf x 21 10 = D at *
  have e1 : A * 4294967295 * 1048576 % 4294967296 = A * 4293918720 := by omega
  have e2 : B * 4096 % 4294967296 = B * 4096 := by omega
  have e3 : C * 2048 % 4294967296 = C * 2048 := by omega
  have e4 : D * 2 % 4294967296 = D * 2 := by omega
  have i20 : ((2 ^ 20 : Nat) : Int) = 1048576 := rfl
  have i12 : ((2 ^ 12 : Nat) : Int) = 4096 := rfl
  have i11 : ((2 ^ 11 : Nat) : Int) = 2048 := rfl
  rw [e1, e2, e3, e4]
  rw [u32_or_add (A * 4293918720) (B * 4096) 20 (by omega) (by omega) (by omega) (by omega) (by omega) (by omega)]
  rw [u32_or_add (A * 4293918720 + B * 4096) (C * 2048) 12 (by omega) (by omega) (by omega) (by omega) (by omega) (by omega)]
  rw [u32_or_add (A * 4293918720 + B * 4096 + C * 2048) (D * 2) 11 (by omega) (by omega) (by omega) (by omega) (by omega) (by omega)]
  rw [ext_21]
  have : A = 0 ∨ A = 1 := by omega
  rcases this with rfl | rfl <;> split <;> omega

theorem b_val (x : Int) (h0 : 0 ≤ x) (h1 : x < 4294967296) : bits .or .u32 (bits .or .u32 (bits .or .u32 (sgnOf x 31 * 4096 % 4294967296) (bitsOf x 7 1 * 2048 % 4294967296)) (bitsOf x 25 6 * 32 % 4294967296)) (bitsOf x 8 4 * 2 % 4294967296) = immOf x 4 := by
  rw [sgn_31 x h0 h1]
  show _ = extOf (((bitsOf x 31 1 * 2 + bitsOf x 7 1) * 64 + bitsOf x 25 6) * 32 + bitsOf x 8 4 * 2) 13
  have a := b1 x 31; have b := b1 x 7; have c := b6 x 25; have d := b4 x 8
  generalize bitsOf x 31 1 = A at *; generalize bitsOf x 7 1 = B at *; generalize bitsOf x 25 6 = C at *; generalize bitsOf x 8 4 = D at *
  have e1 : A * 4294967295 * 4096 % 4294967296 = A * 4294963200 := by omega
  have e2 : B * 2048 % 4294967296 = B * 2048 := by omega
  have e3 : C * 32 % 4294967296 = C * 32 := by omega
  have e4 : D * 2 % 4294967296 = D * 2 := by omega
  have i12 : ((2 ^ 12 : Nat) : Int) = 4096 := rfl
  have i11 : ((2 ^ 11 : Nat) : Int) = 2048 := rfl
  have i5 : ((2 ^ 5 : Nat) : Int) = 32 := rfl
  rw [e1, e2, e3, e4]
  rw [u32_or_add (A * 4294963200) (B * 2048) 12 (by omega) (by omega) (by omega) (by omega) (by omega) (by omega)]
  rw [u32_or_add (A * 4294963200 + B * 2048) (C * 32) 11 (by omega) (by omega) (by omega) (by omega) (by omega) (by omega)]
  rw [u32_or_add (A * 4294963200 + B * 2048 + C * 32) (D * 2) 5 (by omega) (by omega) (by omega) (by omega) (by omega) (by omega)]
  rw [ext_13]
  have : A = 0 ∨ A = 1 := by omega
  rcases this with rfl | rfl <;> split <;> omega

theorem s_val (x : Int) (h0 : 0 ≤ x) (h1 : x < 4294967296) : bits .or .u32 (sgnOf x 25 * 32 % 4294967296) (bitsOf x 7 5) = immOf x 5 := by
  rw [sgn_25 x h0 h1]
  show _ = extOf (bitsOf x 25 7 * 32 + bitsOf x 7 5) 12
  have a := b7 x 25; have b := b5 x 7
  generalize bitsOf x 25 7 = A at *; generalize bitsOf x 7 5 = B at *
  have i5 : ((2 ^ 5 : Nat) : Int) = 32 := rfl
  rw [u32_or_add _ _ 5 (by omega) (by omega) (by omega) (by omega) (by omega) (by omega)]
  rw [ext_12]
  split <;> split <;> omega

set_option maxHeartbeats 1600000 in
theorem dimm_any (x f : Int) (w : World) (h0 : 0 ≤ x) (h1 : x < 4294967296) (hf : 0 ≤ f ∧ f < 10) :
    Calls Tryz.prog 81 #[.int .u32 x, .int .i64 f] w fun e w' => e = .returned (.int .u32 (immOf x f)) ∧ w' = w := by
  have f1 : ∀ w : World, Calls Tryz.prog 98 #[.int .u32 x, .int .i64 19, .int .i64 12] w fun e w' => e = .returned (.int .u32 (bitsOf x 12 8)) ∧ w' = w := fun w => dfield_any x 19 12 w h0 h1 (by omega) (by omega) (by omega)
  have f2 : ∀ w : World, Calls Tryz.prog 98 #[.int .u32 x, .int .i64 20, .int .i64 20] w fun e w' => e = .returned (.int .u32 (bitsOf x 20 1)) ∧ w' = w := fun w => dfield_any x 20 20 w h0 h1 (by omega) (by omega) (by omega)
  have f3 : ∀ w : World, Calls Tryz.prog 98 #[.int .u32 x, .int .i64 30, .int .i64 21] w fun e w' => e = .returned (.int .u32 (bitsOf x 21 10)) ∧ w' = w := fun w => dfield_any x 30 21 w h0 h1 (by omega) (by omega) (by omega)
  have f4 : ∀ w : World, Calls Tryz.prog 98 #[.int .u32 x, .int .i64 7, .int .i64 7] w fun e w' => e = .returned (.int .u32 (bitsOf x 7 1)) ∧ w' = w := fun w => dfield_any x 7 7 w h0 h1 (by omega) (by omega) (by omega)
  have f5 : ∀ w : World, Calls Tryz.prog 98 #[.int .u32 x, .int .i64 30, .int .i64 25] w fun e w' => e = .returned (.int .u32 (bitsOf x 25 6)) ∧ w' = w := fun w => dfield_any x 30 25 w h0 h1 (by omega) (by omega) (by omega)
  have f6 : ∀ w : World, Calls Tryz.prog 98 #[.int .u32 x, .int .i64 11, .int .i64 8] w fun e w' => e = .returned (.int .u32 (bitsOf x 8 4)) ∧ w' = w := fun w => dfield_any x 11 8 w h0 h1 (by omega) (by omega) (by omega)
  have f7 : ∀ w : World, Calls Tryz.prog 98 #[.int .u32 x, .int .i64 11, .int .i64 7] w fun e w' => e = .returned (.int .u32 (bitsOf x 7 5)) ∧ w' = w := fun w => dfield_any x 11 7 w h0 h1 (by omega) (by omega) (by omega)
  have f8 : ∀ w : World, Calls Tryz.prog 98 #[.int .u32 x, .int .i64 24, .int .i64 20] w fun e w' => e = .returned (.int .u32 (bitsOf x 20 5)) ∧ w' = w := fun w => dfield_any x 24 20 w h0 h1 (by omega) (by omega) (by omega)
  have f9 : ∀ w : World, Calls Tryz.prog 98 #[.int .u32 x, .int .i64 19, .int .i64 15] w fun e w' => e = .returned (.int .u32 (bitsOf x 15 5)) ∧ w' = w := fun w => dfield_any x 19 15 w h0 h1 (by omega) (by omega) (by omega)
  have g1 : ∀ w : World, Calls Tryz.prog 99 #[.int .u32 x, .int .i64 31] w fun e w' => e = .returned (.int .u32 (sgnOf x 31)) ∧ w' = w := fun w => dsign_any x 31 w h0 h1 (by omega) (by omega)
  have g2 : ∀ w : World, Calls Tryz.prog 99 #[.int .u32 x, .int .i64 20] w fun e w' => e = .returned (.int .u32 (sgnOf x 20)) ∧ w' = w := fun w => dsign_any x 20 w h0 h1 (by omega) (by omega)
  have g3 : ∀ w : World, Calls Tryz.prog 99 #[.int .u32 x, .int .i64 25] w fun e w' => e = .returned (.int .u32 (sgnOf x 25)) ∧ w' = w := fun w => dsign_any x 25 w h0 h1 (by omega) (by omega)
  rcases form10 hf with rfl | rfl | rfl | rfl | rfl | rfl | rfl | rfl | rfl | rfl
  · go_enter Tryz.func81, Tryz.ntmps81
    go_wp2
    go_ret
    exact ⟨rfl, rfl⟩
  · go_enter Tryz.func81, Tryz.ntmps81
    go_wp2
    go_ret
    exact ⟨ret_int (u_val x h0 h1), rfl⟩
  · go_enter Tryz.func81, Tryz.ntmps81
    go_wp2_with fail
    refine (g1 _).mono ?_; rintro e w' ⟨rfl, rfl⟩
    go_wp2_with fail
    refine (f1 _).mono ?_; rintro e w' ⟨rfl, rfl⟩
    go_wp2_with fail
    refine (f2 _).mono ?_; rintro e w' ⟨rfl, rfl⟩
    go_wp2_with fail
    refine (f3 _).mono ?_; rintro e w' ⟨rfl, rfl⟩
    go_wp2
    go_ret
    exact ⟨ret_int (j_val x h0 h1), rfl⟩
  · go_enter Tryz.func81, Tryz.ntmps81
    go_wp2_with (go_at_call 99; refine (g2 _).mono ?_; rintro e w' ⟨rfl, rfl⟩)
    go_ret
    exact ⟨ret_int (sgn_20 x h0 h1), rfl⟩
  · go_enter Tryz.func81, Tryz.ntmps81
    go_wp2_with fail
    refine (g1 _).mono ?_; rintro e w' ⟨rfl, rfl⟩
    go_wp2_with fail
    refine (f4 _).mono ?_; rintro e w' ⟨rfl, rfl⟩
    go_wp2_with fail
    refine (f5 _).mono ?_; rintro e w' ⟨rfl, rfl⟩
    go_wp2_with fail
    refine (f6 _).mono ?_; rintro e w' ⟨rfl, rfl⟩
    go_wp2
    go_ret
    exact ⟨ret_int (b_val x h0 h1), rfl⟩
  · go_enter Tryz.func81, Tryz.ntmps81
    go_wp2_with fail
    refine (g3 _).mono ?_; rintro e w' ⟨rfl, rfl⟩
    go_wp2_with fail
    refine (f7 _).mono ?_; rintro e w' ⟨rfl, rfl⟩
    go_wp2
    go_ret
    exact ⟨ret_int (s_val x h0 h1), rfl⟩
  · go_enter Tryz.func81, Tryz.ntmps81
    go_wp2
    go_ret
    exact ⟨rfl, rfl⟩
  · go_enter Tryz.func81, Tryz.ntmps81
    go_wp2_with (go_at_call 98; refine (f8 _).mono ?_; rintro e w' ⟨rfl, rfl⟩)
    go_ret
    exact ⟨rfl, rfl⟩
  · go_enter Tryz.func81, Tryz.ntmps81
    go_wp2
    go_ret
    exact ⟨rfl, rfl⟩
  · go_enter Tryz.func81, Tryz.ntmps81
    go_wp2_with (go_at_call 98; refine (f9 _).mono ?_; rintro e w' ⟨rfl, rfl⟩)
    go_ret
    exact ⟨rfl, rfl⟩

set_option maxHeartbeats 800000 in
theorem dcsr_any (x f : Int) (w : World) (h0 : 0 ≤ x) (h1 : x < 4294967296) (hf : 0 ≤ f ∧ f < 10) :
    Calls Tryz.prog 82 #[.int .u32 x, .int .i64 f] w fun e w' => e = .returned (.int .i64 (fldCsr x f)) ∧ w' = w := by
  have f1 : ∀ w : World, Calls Tryz.prog 98 #[.int .u32 x, .int .i64 31, .int .i64 20] w fun e w' => e = .returned (.int .u32 (bitsOf x 20 12)) ∧ w' = w := fun w => dfield_any x 31 20 w h0 h1 (by omega) (by omega) (by omega)
  have bd := b12 x 20
  rcases form10 hf with rfl | rfl | rfl | rfl | rfl | rfl | rfl | rfl | rfl | rfl
  all_goals
    go_enter Tryz.func82, Tryz.ntmps82
    go_wp2_with (go_at_call 98; refine (f1 _).mono ?_; rintro e w' ⟨rfl, rfl⟩)
    go_ret
    exact ⟨rfl, rfl⟩
end Go.Proofs.YtmkmbocnipmngaaGreatDoor

/- Layer 3: what putRegisters writes; what Decode answers of any word. -/
namespace Go.Proofs.YtmkmbocnipmngaaGreatDoor
open Go.RowKit
set_option linter.unusedVariables false

set_option maxHeartbeats 1600000 in
theorem dput_any (x f : Int) (c0 c4 c5 : Value) (V : World) (B : Nat) (hB : V.heap.size = B) (h0 : 0 ≤ x) (h1 : x < 4294967296) (hf : 0 ≤ f ∧ f < 10) :
    Calls Tryz.prog 80 #[.pointer (some ⟨B, 0, none⟩), .int .u32 x, .int .i64 f] (V.alloc (.cells #[c0, .int .i64 0, .int .i64 0, .int .i64 0, c4, c5] 24)) fun e w' =>
      e = .returned (.tuple #[]) ∧ w' = V.alloc (.cells #[c0, .int .i64 (fldRd x f), .int .i64 (fldRs1 x f), .int .i64 (fldRs2 x f), c4, c5] 24) := by
  subst hB
  have f1 : ∀ w : World, Calls Tryz.prog 98 #[.int .u32 x, .int .i64 11, .int .i64 7] w fun e w' => e = .returned (.int .u32 (bitsOf x 7 5)) ∧ w' = w := fun w => dfield_any x 11 7 w h0 h1 (by omega) (by omega) (by omega)
  have f2 : ∀ w : World, Calls Tryz.prog 98 #[.int .u32 x, .int .i64 19, .int .i64 15] w fun e w' => e = .returned (.int .u32 (bitsOf x 15 5)) ∧ w' = w := fun w => dfield_any x 19 15 w h0 h1 (by omega) (by omega) (by omega)
  have f3 : ∀ w : World, Calls Tryz.prog 98 #[.int .u32 x, .int .i64 24, .int .i64 20] w fun e w' => e = .returned (.int .u32 (bitsOf x 20 5)) ∧ w' = w := fun w => dfield_any x 24 20 w h0 h1 (by omega) (by omega) (by omega)
  have d1 := b5 x 7
  have d2 := b5 x 15
  have d3 := b5 x 20
  rcases form10 hf with rfl | rfl | rfl | rfl | rfl | rfl | rfl | rfl | rfl | rfl
  all_goals
    go_enter Tryz.func80, Tryz.ntmps80
    go_wp2_with fail
    refine (f1 _).mono ?_; rintro e w' ⟨rfl, hw⟩; subst hw
    go_wp2_with fail
    refine (f2 _).mono ?_; rintro e w' ⟨rfl, hw⟩; subst hw
    go_wp2_with fail
    refine (f3 _).mono ?_; rintro e w' ⟨rfl, hw⟩; subst hw
    go_wp2
    go_end0
    exact ⟨rfl, rfl⟩

set_option maxHeartbeats 1600000 in
theorem decode_any (x : Int) (w : World) (h0 : 0 ≤ x) (h1 : x < 4294967296) (tf : FormTab w) (tm : MatchTab w) :
    Calls Tryz.prog 55 #[.int .u32 x] w fun e w' => e = .returned (insV x) ∧ Below w.heap.size w w' := by
  have HF : Hid (FormTab w) := tf
  have HM : Hid (MatchTab w) := tm
  clear tf tm
  have hl := kind_lt x
  have hz := formZ_lt (kindOf x) hl
  have b1 : Below w.heap.size w (w.alloc (.cells #[.int .i64 0, .int .i64 0, .int .i64 0, .int .i64 0, .int .u32 0, .int .i64 0] 24)) := (Below.refl _ _).alloc (Nat.le_refl _) _
  go_enter Tryz.func55, Tryz.ntmps55
  go_wp2_with fail
  refine (opOf_any x _ h0 h1 (MatchTab.below HM.out b1)).mono ?_
  rintro e w' ⟨rfl, hw⟩; subst hw
  go_wp2_with fail
  refine (form_yes (kindOf x) hl _ (FormTab.below (FormTab.below HF.out b1) ((Below.refl _ _).alloc (Nat.le_refl _) _))).mono ?_
  rintro e w' ⟨rfl, hw⟩; subst hw
  go_wp2_with fail
  refine (dput_any x (formZ (kindOf x)) (.int .i64 (kindOf x)) (.int .u32 0) (.int .i64 0) _ (w.heap.size + 1) (by simp) h0 h1 hz).mono ?_
  rintro e w' ⟨rfl, hw⟩; subst hw
  go_wp2_with fail
  refine (dimm_any x (formZ (kindOf x)) _ h0 h1 hz).mono ?_
  rintro e w' ⟨rfl, hw⟩; subst hw
  go_wp2_with fail
  refine (dcsr_any x (formZ (kindOf x)) _ h0 h1 hz).mono ?_
  rintro e w' ⟨rfl, hw⟩; subst hw
  go_wp2
  refine bodyPost_ret (v := insV x) (by simp [results, Tryz.results55, go_sem, insV]) rfl ⟨rfl, ((Below.refl _ _).alloc (Nat.le_refl _) _).alloc (by simp) _⟩
end Go.Proofs.YtmkmbocnipmngaaGreatDoor

/- Layer 5: the document's own Text, form 0. -/
namespace Go.Proofs.YtmkmbocnipmngaaGreatDoor
open Go.RowKit
set_option linter.unusedVariables false

theorem txt_0 (k : Nat) (hz : formZ k = 0) (rd rs1 rs2 imm csr : Int) : nameS k = bs (textL k rd rs1 rs2 imm csr) := by
  show bs (nameL.getD k []) = _
  skip
  unfold textL restL
  rw [hz]
  simp

end Go.Proofs.YtmkmbocnipmngaaGreatDoor

/- Layer 5: the document's own Text, form 1. -/
namespace Go.Proofs.YtmkmbocnipmngaaGreatDoor
open Go.RowKit
set_option linter.unusedVariables false

theorem txt_1 (k : Nat) (hz : formZ k = 1) (rd rs1 rs2 imm csr : Int) : nameS k ++ (⟨#[32]⟩ : ByteArray) ++ bs (120 :: numL rd) ++ (⟨#[44, 32]⟩ : ByteArray) ++ bs (numL (imm / 4096)) = bs (textL k rd rs1 rs2 imm csr) := by
  show bs (nameL.getD k []) ++ bs [32] ++ bs (120 :: numL rd) ++ bs [44, 32] ++ bs (numL (imm / 4096)) = _
  rw [bs_app, bs_app, bs_app, bs_app]
  unfold textL restL
  rw [hz]
  simp

end Go.Proofs.YtmkmbocnipmngaaGreatDoor

/- Layer 5: the document's own Text, form 2. -/
namespace Go.Proofs.YtmkmbocnipmngaaGreatDoor
open Go.RowKit
set_option linter.unusedVariables false

theorem txt_2 (k : Nat) (hz : formZ k = 2) (rd rs1 rs2 imm csr : Int) : nameS k ++ (⟨#[32]⟩ : ByteArray) ++ bs (120 :: numL rd) ++ (⟨#[44, 32]⟩ : ByteArray) ++ bs (numL (signedOf imm)) = bs (textL k rd rs1 rs2 imm csr) := by
  show bs (nameL.getD k []) ++ bs [32] ++ bs (120 :: numL rd) ++ bs [44, 32] ++ bs (numL (signedOf imm)) = _
  rw [bs_app, bs_app, bs_app, bs_app]
  unfold textL restL
  rw [hz]
  simp

end Go.Proofs.YtmkmbocnipmngaaGreatDoor

/- Layer 5: the document's own Text, form 3a. -/
namespace Go.Proofs.YtmkmbocnipmngaaGreatDoor
open Go.RowKit
set_option linter.unusedVariables false

theorem txt_3a (k : Nat) (hz : formZ k = 3) (hk15 : k ≤ 15) (rd rs1 rs2 imm csr : Int) : nameS k ++ (⟨#[32]⟩ : ByteArray) ++ bs (120 :: numL rd) ++ (⟨#[44, 32]⟩ : ByteArray) ++ bs (numL (signedOf imm)) ++ (⟨#[40]⟩ : ByteArray) ++ bs (120 :: numL rs1) ++ (⟨#[41]⟩ : ByteArray) = bs (textL k rd rs1 rs2 imm csr) := by
  show bs (nameL.getD k []) ++ bs [32] ++ bs (120 :: numL rd) ++ bs [44, 32] ++ bs (numL (signedOf imm)) ++ bs [40] ++ bs (120 :: numL rs1) ++ bs [41] = _
  rw [bs_app, bs_app, bs_app, bs_app, bs_app, bs_app, bs_app]
  unfold textL restL
  rw [hz]
  simp [hk15]

end Go.Proofs.YtmkmbocnipmngaaGreatDoor

/- Layer 5: the document's own Text, form 3b. -/
namespace Go.Proofs.YtmkmbocnipmngaaGreatDoor
open Go.RowKit
set_option linter.unusedVariables false

theorem txt_3b (k : Nat) (hz : formZ k = 3) (hk15 : ¬ k ≤ 15) (rd rs1 rs2 imm csr : Int) : nameS k ++ (⟨#[32]⟩ : ByteArray) ++ bs (120 :: numL rd) ++ (⟨#[44, 32]⟩ : ByteArray) ++ bs (120 :: numL rs1) ++ (⟨#[44, 32]⟩ : ByteArray) ++ bs (numL (signedOf imm)) = bs (textL k rd rs1 rs2 imm csr) := by
  show bs (nameL.getD k []) ++ bs [32] ++ bs (120 :: numL rd) ++ bs [44, 32] ++ bs (120 :: numL rs1) ++ bs [44, 32] ++ bs (numL (signedOf imm)) = _
  rw [bs_app, bs_app, bs_app, bs_app, bs_app, bs_app]
  unfold textL restL
  rw [hz]
  simp [hk15]

end Go.Proofs.YtmkmbocnipmngaaGreatDoor

/- Layer 5: the document's own Text, form 4. -/
namespace Go.Proofs.YtmkmbocnipmngaaGreatDoor
open Go.RowKit
set_option linter.unusedVariables false

theorem txt_4 (k : Nat) (hz : formZ k = 4) (rd rs1 rs2 imm csr : Int) : nameS k ++ (⟨#[32]⟩ : ByteArray) ++ bs (120 :: numL rs1) ++ (⟨#[44, 32]⟩ : ByteArray) ++ bs (120 :: numL rs2) ++ (⟨#[44, 32]⟩ : ByteArray) ++ bs (numL (signedOf imm)) = bs (textL k rd rs1 rs2 imm csr) := by
  show bs (nameL.getD k []) ++ bs [32] ++ bs (120 :: numL rs1) ++ bs [44, 32] ++ bs (120 :: numL rs2) ++ bs [44, 32] ++ bs (numL (signedOf imm)) = _
  rw [bs_app, bs_app, bs_app, bs_app, bs_app, bs_app]
  unfold textL restL
  rw [hz]
  simp

end Go.Proofs.YtmkmbocnipmngaaGreatDoor

/- Layer 5: the document's own Text, form 5. -/
namespace Go.Proofs.YtmkmbocnipmngaaGreatDoor
open Go.RowKit
set_option linter.unusedVariables false

theorem txt_5 (k : Nat) (hz : formZ k = 5) (rd rs1 rs2 imm csr : Int) : nameS k ++ (⟨#[32]⟩ : ByteArray) ++ bs (120 :: numL rs2) ++ (⟨#[44, 32]⟩ : ByteArray) ++ bs (numL (signedOf imm)) ++ (⟨#[40]⟩ : ByteArray) ++ bs (120 :: numL rs1) ++ (⟨#[41]⟩ : ByteArray) = bs (textL k rd rs1 rs2 imm csr) := by
  show bs (nameL.getD k []) ++ bs [32] ++ bs (120 :: numL rs2) ++ bs [44, 32] ++ bs (numL (signedOf imm)) ++ bs [40] ++ bs (120 :: numL rs1) ++ bs [41] = _
  rw [bs_app, bs_app, bs_app, bs_app, bs_app, bs_app, bs_app]
  unfold textL restL
  rw [hz]
  simp

end Go.Proofs.YtmkmbocnipmngaaGreatDoor

/- Layer 5: the document's own Text, form 6. -/
namespace Go.Proofs.YtmkmbocnipmngaaGreatDoor
open Go.RowKit
set_option linter.unusedVariables false

theorem txt_6 (k : Nat) (hz : formZ k = 6) (rd rs1 rs2 imm csr : Int) : nameS k ++ (⟨#[32]⟩ : ByteArray) ++ bs (120 :: numL rd) ++ (⟨#[44, 32]⟩ : ByteArray) ++ bs (120 :: numL rs1) ++ (⟨#[44, 32]⟩ : ByteArray) ++ bs (120 :: numL rs2) = bs (textL k rd rs1 rs2 imm csr) := by
  show bs (nameL.getD k []) ++ bs [32] ++ bs (120 :: numL rd) ++ bs [44, 32] ++ bs (120 :: numL rs1) ++ bs [44, 32] ++ bs (120 :: numL rs2) = _
  rw [bs_app, bs_app, bs_app, bs_app, bs_app, bs_app]
  unfold textL restL
  rw [hz]
  simp

end Go.Proofs.YtmkmbocnipmngaaGreatDoor

/- Layer 5: the document's own Text, form 7. -/
namespace Go.Proofs.YtmkmbocnipmngaaGreatDoor
open Go.RowKit
set_option linter.unusedVariables false

theorem txt_7 (k : Nat) (hz : formZ k = 7) (rd rs1 rs2 imm csr : Int) : nameS k ++ (⟨#[32]⟩ : ByteArray) ++ bs (120 :: numL rd) ++ (⟨#[44, 32]⟩ : ByteArray) ++ bs (120 :: numL rs1) ++ (⟨#[44, 32]⟩ : ByteArray) ++ bs (numL (signedOf imm)) = bs (textL k rd rs1 rs2 imm csr) := by
  show bs (nameL.getD k []) ++ bs [32] ++ bs (120 :: numL rd) ++ bs [44, 32] ++ bs (120 :: numL rs1) ++ bs [44, 32] ++ bs (numL (signedOf imm)) = _
  rw [bs_app, bs_app, bs_app, bs_app, bs_app, bs_app]
  unfold textL restL
  rw [hz]
  simp

end Go.Proofs.YtmkmbocnipmngaaGreatDoor

/- Layer 5: the document's own Text, form 8. -/
namespace Go.Proofs.YtmkmbocnipmngaaGreatDoor
open Go.RowKit
set_option linter.unusedVariables false

theorem txt_8 (k : Nat) (hz : formZ k = 8) (rd rs1 rs2 imm csr : Int) : nameS k ++ (⟨#[32]⟩ : ByteArray) ++ bs (120 :: numL rd) ++ (⟨#[44, 32]⟩ : ByteArray) ++ bs (numL csr) ++ (⟨#[44, 32]⟩ : ByteArray) ++ bs (120 :: numL rs1) = bs (textL k rd rs1 rs2 imm csr) := by
  show bs (nameL.getD k []) ++ bs [32] ++ bs (120 :: numL rd) ++ bs [44, 32] ++ bs (numL csr) ++ bs [44, 32] ++ bs (120 :: numL rs1) = _
  rw [bs_app, bs_app, bs_app, bs_app, bs_app, bs_app]
  unfold textL restL
  rw [hz]
  simp

end Go.Proofs.YtmkmbocnipmngaaGreatDoor

/- Layer 5: the document's own Text, form 9. -/
namespace Go.Proofs.YtmkmbocnipmngaaGreatDoor
open Go.RowKit
set_option linter.unusedVariables false

theorem txt_9 (k : Nat) (hz : formZ k = 9) (rd rs1 rs2 imm csr : Int) : nameS k ++ (⟨#[32]⟩ : ByteArray) ++ bs (120 :: numL rd) ++ (⟨#[44, 32]⟩ : ByteArray) ++ bs (numL csr) ++ (⟨#[44, 32]⟩ : ByteArray) ++ bs (numL (signedOf imm)) = bs (textL k rd rs1 rs2 imm csr) := by
  show bs (nameL.getD k []) ++ bs [32] ++ bs (120 :: numL rd) ++ bs [44, 32] ++ bs (numL csr) ++ bs [44, 32] ++ bs (numL (signedOf imm)) = _
  rw [bs_app, bs_app, bs_app, bs_app, bs_app, bs_app]
  unfold textL restL
  rw [hz]
  simp

end Go.Proofs.YtmkmbocnipmngaaGreatDoor

/- Layer 3: what mimesisref03's bits and Imm answer. -/
namespace Go.Proofs.YtmkmbocnipmngaaGreatDoor
open Go.RowKit
set_option linter.unusedVariables false

end Go.Proofs.YtmkmbocnipmngaaGreatDoor

/- Layer 3: what mimesisref03's Decode answers of any word. -/
namespace Go.Proofs.YtmkmbocnipmngaaGreatDoor
open Go.RowKit
set_option linter.unusedVariables false

/-- Block B holds the patterns. -/
def PatAt (w : World) (B : Nat) : Prop := ∀ j, j < 57 → w.cell? ⟨B, j * 2, none⟩ = some (.int .u32 (maskL.getD j 0)) ∧ w.cell? ⟨B, j * 2 + 1, none⟩ = some (.int .u32 (matchL.getD j 0))
theorem patAt_new (w : World) (t : TypeId) : PatAt (w.alloc (.cells patCells t)) w.heap.size := fun j hj => by
  have h := patCells_at j hj
  rw [Nat.mul_comm] at h
  constructor
  · rw [World.cell?_alloc_at _ _ _ _ rfl]; exact h.1
  · rw [World.cell?_alloc_at _ _ _ _ rfl]; exact h.2

theorem q_alloc {V W' : World} {o : Obj} (h : Q (V.alloc o) W') : ∃ V', Q V V' ∧ W' = V'.alloc o := by
  obtain ⟨k, rfl⟩ := h
  exact ⟨V.drewN k, ⟨k, rfl⟩, rfl⟩
theorem q_alloc2 {V W' : World} {o p : Obj} (h : Q ((V.alloc o).alloc p) W') : ∃ V', Q V V' ∧ W' = (V'.alloc o).alloc p := by
  obtain ⟨U, hu, rfl⟩ := q_alloc h
  obtain ⟨V', hv, rfl⟩ := q_alloc hu
  exact ⟨V', hv, rfl⟩
theorem q_alloc3 {V W' : World} {o p r : Obj} (h : Q (((V.alloc o).alloc p).alloc r) W') : ∃ V', Q V V' ∧ W' = ((V'.alloc o).alloc p).alloc r := by
  obtain ⟨U, hu, rfl⟩ := q_alloc h
  obtain ⟨V', hv, rfl⟩ := q_alloc2 hu
  exact ⟨V', hv, rfl⟩
theorem Q.size {w w' : World} (h : Q w w') : w'.heap.size = w.heap.size := by obtain ⟨k, rfl⟩ := h; rfl

end Go.Proofs.YtmkmbocnipmngaaGreatDoor

/- Layer 5: the document's own Text and Word, of any instruction and word. -/
namespace Go.Proofs.YtmkmbocnipmngaaGreatDoor
open Go.RowKit
set_option linter.unusedVariables false

theorem kind_txB (x : Int) : txB (kindOf x : Int) (fldRd x (formZ (kindOf x))) (fldRs1 x (formZ (kindOf x))) (fldRs2 x (formZ (kindOf x))) (immOf x (formZ (kindOf x))) (fldCsr x (formZ (kindOf x))) = decide (kindOf x ≠ 0) := by
  have hl := kind_lt x
  unfold txB
  rw [show ((kindOf x : Int)).toNat = kindOf x from by omega, fields_right x _ (formZ_lt _ hl), Bool.and_true]
  by_cases h : kindOf x = 0
  · rw [h]; decide
  · rw [decide_eq_true (by omega : 1 ≤ (kindOf x : Int) ∧ (kindOf x : Int) < 58), decide_eq_true h]

end Go.Proofs.YtmkmbocnipmngaaGreatDoor

/- Layer 5: disasm's Text, Word and Lines answer what the laws' walks ask of them. -/
namespace Go.Proofs.YtmkmbocnipmngaaGreatDoor
open Go.RowKit Go.Sort
set_option linter.unusedVariables false

theorem numP : NumP := number_any
theorem regP : RegP := register_any

set_option maxRecDepth 100000 in
set_option maxHeartbeats 1000000 in
theorem textP : TextP := by
  intro op rd rs1 rs2 imm csr w i0 i1 tf tn tp htx
  obtain ⟨k, rfl, hkk, hk, hk0, hr⟩ := txB_t htx
  rw [hkk]
  have HF : Hid (FormTab w) := tf
  have HN : Hid (NameTab w) := tn
  have HK : Hid (PowTab w) := tp
  have HI0 : Hid (0 ≤ imm) := i0
  have HI1 : Hid (imm < 4294967296) := i1
  have HKL : Hid (k < 58) := hk
  have HK0 : Hid (k ≠ 0) := hk0
  have HR : Hid (rightOf (formZ k) rd rs1 rs2 imm csr = true) := hr
  have hn := tneb hk0
  clear tf tn tp i0 i1 hk hk0 hr htx hkk
  have HS : Hid (SixT (w.alloc (.cells #[.int .i64 k, .int .i64 rd, .int .i64 rs1, .int .i64 rs2, .int .u32 imm, .int .i64 csr] 24)) w.heap.size k rd rs1 rs2 imm csr) := sixT_new w _ rfl _ _ _ _ _ _ _
  have hW : Hid (Below w.heap.size w (w.alloc (.cells #[.int .i64 k, .int .i64 rd, .int .i64 rs1, .int .i64 rs2, .int .u32 imm, .int .i64 csr] 24))) := (Below.refl _ _).alloc (Nat.le_refl _) _
  go_enter Tryz.func6, Tryz.ntmps6
  go_wp2_with fail
  generalize w.alloc (.cells #[.int .i64 k, .int .i64 rd, .int .i64 rs1, .int .i64 rs2, .int .u32 imm, .int .i64 csr] 24) = W at *
  refine (iright_yes k rd rs1 rs2 imm csr _ HKL.out HI0.out HI1.out (FormTab.below HF.out hW.out)).mono ?_
  rw [HR.out]
  rintro e w1 ⟨rfl, hb⟩
  have HB := below_step hW hb
  have HSn := six_step HS hb
  obtain ⟨c0, c1, c2, c3, c4, c5⟩ := HSn.out
  clear hb
  go_wp2_with fail
  refine (rightText_any k rd rs1 rs2 imm csr _ HKL.out HK0.out HI0.out HI1.out (FormTab.below HF.out HB.out) (NameTab.below HN.out HB.out) (powTab_below HK.out HB.out) HR.out).mono ?_
  rintro e w2 ⟨rfl, hb⟩
  have HB2 := below_step HB hb
  go_wp2
  go_ret2
  exact ⟨rfl, HB2.out⟩

set_option maxRecDepth 100000 in
set_option maxHeartbeats 1000000 in
theorem textQ : TextQ := by
  intro op rd rs1 rs2 imm csr w i0 i1 tf tn tp htx
  by_cases h0 : op = 0
  · subst h0
    clear htx tf tn tp i0 i1
    go_enter Tryz.func6, Tryz.ntmps6
    go_wp2
    go_ret2
    exact ⟨rfl, (Below.refl _ _).alloc (Nat.le_refl _) _⟩
  · have hn : (op == 0) = false := by simpa using h0
    rcases txB_f htx with hf | ⟨k, rfl, hk, hk0, hr⟩
    · have ho : opB op = false := opB_f (by omega)
      clear htx tf tn tp i0 i1 hf h0
      go_enter Tryz.func6, Tryz.ntmps6
      go_wp2_with fail
      refine (iright_no op rd rs1 rs2 imm csr _ ho).mono ?_
      rintro e w1 ⟨rfl, hb⟩
      go_wp2
      go_ret2
      refine ⟨rfl, ((Below.refl _ _).alloc (Nat.le_refl _) _).trans (hb.mono ?_)⟩
      simp
    · have HF : Hid (FormTab w) := tf
      have HI0 : Hid (0 ≤ imm) := i0
      have HI1 : Hid (imm < 4294967296) := i1
      have HKL : Hid (k < 58) := hk
      have HR : Hid (rightOf (formZ k) rd rs1 rs2 imm csr = false) := hr
      clear htx tf tn tp i0 i1 h0 hk hk0 hr
      go_enter Tryz.func6, Tryz.ntmps6
      go_wp2_with fail
      refine (iright_yes k rd rs1 rs2 imm csr _ HKL.out HI0.out HI1.out (FormTab.below HF.out ((Below.refl _ _).alloc (Nat.le_refl _) _))).mono ?_
      rw [HR.out]
      rintro e w1 ⟨rfl, hb⟩
      go_wp2
      go_ret2
      refine ⟨rfl, ((Below.refl _ _).alloc (Nat.le_refl _) _).trans (hb.mono ?_)⟩
      simp

set_option maxRecDepth 100000 in
set_option maxHeartbeats 1000000 in
theorem wordP : WordP := by
  intro x w x0 x1 tf tn tp tm
  have HF : Hid (FormTab w) := tf
  have HN : Hid (NameTab w) := tn
  have HK : Hid (PowTab w) := tp
  have HM : Hid (MatchTab w) := tm
  clear tf tn tp tm
  have hi := immOf_bd x (formZ (kindOf x))
  have hk := kind_txB x
  have hI : insV x = .agg #[.int .i64 (kindOf x), .int .i64 (fldRd x (formZ (kindOf x))), .int .i64 (fldRs1 x (formZ (kindOf x))), .int .i64 (fldRs2 x (formZ (kindOf x))), .int .u32 (immOf x (formZ (kindOf x))), .int .i64 (fldCsr x (formZ (kindOf x)))] := rfl
  by_cases hz : kindOf x = 0
  · have HW : Hid (wordL x = [46, 119, 111, 114, 100] ++ 32 :: numL x) := by
      show wordL x = _
      unfold wordL
      rw [if_pos hz]; rfl
    rw [decide_eq_false (by simpa using hz)] at hk
    have HKX : Hid _ := hk
    have HI : Hid _ := hI
    have HB : Hid _ := hi
    have HX0 : Hid (0 ≤ x) := x0
    have HX1 : Hid (x < 4294967296) := x1
    clear hk hI hi hz x0 x1
    generalize (kindOf x : Int) = op at *
    generalize fldRd x (formZ (kindOf x)) = rd at *
    generalize fldRs1 x (formZ (kindOf x)) = rs1 at *
    generalize fldRs2 x (formZ (kindOf x)) = rs2 at *
    generalize immOf x (formZ (kindOf x)) = imm at *
    generalize fldCsr x (formZ (kindOf x)) = csr at *
    go_enter Tryz.func21, Tryz.ntmps21
    go_wp2_with fail
    refine (decode_any x _ HX0.out HX1.out HF.out HM.out).mono ?_
    rintro e w1 ⟨rfl, hb1⟩
    rw [HI.out]
    have HB1 : Hid (Below w.heap.size w w1) := hb1
    clear hb1
    go_wp2_with fail
    refine (textQ op rd rs1 rs2 imm csr _ HB.out.1 HB.out.2 (FormTab.below HF.out HB1.out) (NameTab.below HN.out HB1.out) (powTab_below HK.out HB1.out) HKX.out).mono ?_
    rintro e w2 ⟨rfl, hb2⟩
    have HB2 := below_step HB1 hb2
    clear hb2
    go_wp2_with fail
    refine (unsigned_any x _ HX0.out HX1.out (powTab_below HK.out HB2.out)).mono ?_
    rintro e w3 ⟨rfl, hb3⟩
    have HB3 := below_step HB2 hb3
    clear hb3
    go_wp2_with fail
    refine (show Calls Tryz.prog 37 #[.string ⟨#[46, 119, 111, 114, 100]⟩, .slice (some ⟨w3.heap.size, 0, none⟩) 1 1] _ _ from line1 [46, 119, 111, 114, 100] (numL x) w3.heap.size _ (by decide) (num_lens x).1 (by simp)).mono ?_
    rintro e w4 ⟨rfl, hb4⟩
    go_wp2
    go_ret
    rw [HW.out]
    exact ⟨rfl, below_al HB3 hb4⟩
  · have HW : Hid (bs (wordL x) = bs (textL (kindOf x : Int).toNat (fldRd x (formZ (kindOf x))) (fldRs1 x (formZ (kindOf x))) (fldRs2 x (formZ (kindOf x))) (immOf x (formZ (kindOf x))) (fldCsr x (formZ (kindOf x))))) := by
      show bs (wordL x) = _
      unfold wordL
      rw [if_neg hz, Int.toNat_natCast]
    rw [decide_eq_true hz] at hk
    have HKX : Hid _ := hk
    have HI : Hid _ := hI
    have HB : Hid _ := hi
    have HX0 : Hid (0 ≤ x) := x0
    have HX1 : Hid (x < 4294967296) := x1
    clear hk hI hi hz x0 x1
    generalize (kindOf x : Int) = op at *
    generalize fldRd x (formZ (kindOf x)) = rd at *
    generalize fldRs1 x (formZ (kindOf x)) = rs1 at *
    generalize fldRs2 x (formZ (kindOf x)) = rs2 at *
    generalize immOf x (formZ (kindOf x)) = imm at *
    generalize fldCsr x (formZ (kindOf x)) = csr at *
    go_enter Tryz.func21, Tryz.ntmps21
    go_wp2_with fail
    refine (decode_any x _ HX0.out HX1.out HF.out HM.out).mono ?_
    rintro e w1 ⟨rfl, hb1⟩
    rw [HI.out]
    have HB1 : Hid (Below w.heap.size w w1) := hb1
    clear hb1
    go_wp2_with fail
    refine (textP op rd rs1 rs2 imm csr _ HB.out.1 HB.out.2 (FormTab.below HF.out HB1.out) (NameTab.below HN.out HB1.out) (powTab_below HK.out HB1.out) HKX.out).mono ?_
    rintro e w2 ⟨rfl, hb2⟩
    have HB2 := below_step HB1 hb2
    clear hb2
    go_wp2
    go_ret
    rw [HW.out]
    exact ⟨rfl, HB2.out⟩

theorem bown_on {w w' : World} {base : Nat} {e : TypeId} {size : Nat} {v : Value} {n : Nat} {xs : List Value} (h : w.ownsRow base e size v n xs) (hb : Below w.heap.size w w') : w'.ownsRow base e size v n xs := by
  refine ⟨h.1, ?_⟩
  rcases h.2 with hn | ⟨g, cap, cur, hv, hbs, hg, rest⟩
  · exact .inl hn
  · have hlt : g < w.heap.size := by
      refine Nat.lt_of_not_le fun hn => ?_
      rw [Array.getElem?_eq_none hn] at hg; cases hg
    exact .inr ⟨g, cap, cur, hv, hbs, by rw [hb.block g hlt]; exact hg, rest⟩
theorem builderAt_on {T e : TypeId} {B b : Nat} {p : Value} {xs : List Value} {w w' : World} (h : Lib.BuilderAt T e B b p xs w) (hb : Below w.heap.size w w') : Lib.BuilderAt T e B b p xs w' := by
  obtain ⟨h1, v, h2, h3, h4⟩ := h
  have hlt : b < w.heap.size := by
    refine Nat.lt_of_not_le fun hn => ?_
    rw [Array.getElem?_eq_none hn] at h2; cases h2
  exact ⟨h1, v, by rw [hb.block b hlt]; exact h2, bown_on h3 hb, h4⟩
theorem isBuilder_on {T e : TypeId} {B b : Nat} {xs : List Value} {w w' : World} (h : Lib.IsBuilder T e B b xs w) (hb : Below w.heap.size w w') : Lib.IsBuilder T e B b xs w' :=
  h.elim (fun h => .inl (builderAt_on h hb)) (fun h => .inr (builderAt_on h hb))
theorem bstring_any (B b : Nat) (l : List UInt8) (w : World) (h : Lib.IsBuilder 58 5 B b (Lib.byteCells l) w) (hBw : B ≤ w.heap.size) :
    Calls Tryz.prog 23 #[.pointer (some ⟨b, 0, none⟩)] w fun e w' => e = .returned (.string (bs l)) ∧ Below B w w' := Any.Builder_String_any lays169 Builder_Extra_169 B b l w h hBw
theorem bwrite_any (B b : Nat) (l s : List UInt8) (w : World) (h : Lib.IsBuilder 58 5 B b (Lib.byteCells l) w) (hlen : l.length + s.length ≤ 140737488355328) (hBw : B ≤ w.heap.size) :
    Calls Tryz.prog 20 #[.pointer (some ⟨b, 0, none⟩), .string (bs s)] w fun e w' => e = .returned (.tuple #[.int .i64 (bs s).size, .nilIface]) ∧ Lib.IsBuilder 58 5 B b (Lib.byteCells (l ++ s)) w' ∧ Below B w w' := by
  refine (show Calls Tryz.prog 20 #[.pointer (some ⟨b, 0, none⟩), .string (bs s)] w _ from Any.Builder_WriteString lays166 Builder_Extra_156 B b (Lib.byteCells l) (bs s) w h (by rw [Lib.byteCells_length, bs_size]; exact hlen) hBw).mono ?_
  rintro e w' ⟨rfl, hB, hb⟩
  refine ⟨rfl, .inr ?_, hb⟩
  rw [Lib.byteCells_append]; exact hB
theorem bbyte_any (B b : Nat) (l : List UInt8) (w : World) (h : Lib.IsBuilder 58 5 B b (Lib.byteCells l) w) (hlen : l.length + 1 ≤ 140737488355328) (hBw : B ≤ w.heap.size) :
    Calls Tryz.prog 22 #[.pointer (some ⟨b, 0, none⟩), .int .u8 10] w fun e w' => e = .returned .nilIface ∧ Lib.IsBuilder 58 5 B b (Lib.byteCells (l ++ [10])) w' ∧ Below B w w' := by
  refine (show Calls Tryz.prog 22 #[.pointer (some ⟨b, 0, none⟩), .int .u8 10] w _ from Any.Builder_WriteByte lays167 Builder_Extra_156 B b (Lib.byteCells l) 10 w h (by rw [Lib.byteCells_length]; exact hlen) hBw).mono ?_
  rintro e w' ⟨rfl, hB, hb⟩
  refine ⟨rfl, .inr ?_, hb⟩
  rw [Lib.byteCells_append]; exact hB

set_option maxRecDepth 100000 in
set_option maxHeartbeats 2000000 in
theorem linesP : LinesP := by
  intro f a len cap w hn hc tf tn tp tm
  have HF : Hid (FormTab w) := tf
  have HN : Hid (NameTab w) := tn
  have HK : Hid (PowTab w) := tp
  have HM : Hid (MatchTab w) := tm
  have HC : Hid (IsWords w a len f) := hc
  have hfr := Lib.fresh_isBuilder 58 5 w
  have hb0 : Below w.heap.size w (w.alloc (.cells #[.pointer none, .slice none 0 0] 58)) := (Below.refl _ _).alloc (Nat.le_refl _) _
  have HFR := Lib.hid hfr
  have HB0 := Lib.hid hb0
  clear tf tn tp tm hc hfr hb0
  go_enter Tryz.func9, Tryz.ntmps9
  go_wp2
  go_loopw [8] (fun i wr => ∃ k : Nat, k ≤ len ∧ i = .int .i64 k ∧ Lib.IsBuilder 58 5 w.heap.size w.heap.size (Lib.byteCells (linesL f k)) wr ∧ Below w.heap.size w wr) (fun i _ => len - (intOf i).toNat)
  case atStart => exact ⟨0, Nat.zero_le _, rfl, HFR.out, HB0.out⟩
  case round =>
    obtain ⟨k, hk, rfl, hI, hb⟩ := hrel
    have HI := Lib.hid hI
    have HB : Hid (Below w.heap.size w wr) := hb
    by_cases hlt : k < len
    · obtain ⟨b, off, ha, hcell, x0, x1⟩ := (IsWords.on HC.out hb).at hlt
      have HLN : Hid (linesL f (k + 1) = linesL f k ++ (wordL (f k) ++ [10])) := rfl
      have hl1 := lines_len f k
      have hl2 := word_len (f k)
      have HL1 : Hid ((linesL f k).length ≤ 44500) := Nat.le_trans hl1 (by omega)
      have HL2 : Hid ((wordL (f k)).length ≤ 88) := hl2
      have HX0 : Hid (0 ≤ f k) := x0
      have HX1 : Hid (f k < 4294967296) := x1
      clear hI hb x0 x1 hl1 hl2
      generalize f k = x at *
      subst ha
      go_wp2_with fail
      refine (wordP x _ HX0.out HX1.out (FormTab.below HF.out HB.out) (NameTab.below HN.out HB.out) (powTab_below HK.out HB.out) (MatchTab.below HM.out HB.out)).mono ?_
      rintro e w1 ⟨rfl, h1⟩
      have HI1 := Lib.hid (isBuilder_on HI.out h1)
      have HB1 := below_step HB h1
      clear h1
      go_wp2_with fail
      refine (bwrite_any w.heap.size w.heap.size _ _ _ HI1.out (by have := HL1.out; have := HL2.out; omega) HB1.out.size).mono ?_
      rintro e w2 ⟨rfl, hI2, h2⟩
      have HI2 := Lib.hid hI2
      have HB2 : Hid (Below w.heap.size w w2) := HB1.out.trans h2
      clear hI2 h2
      go_wp2_with fail
      refine (bbyte_any w.heap.size w.heap.size _ _ HI2.out (by have := HL1.out; have := HL2.out; simp only [List.length_append]; omega) HB2.out.size).mono ?_
      rintro e w3 ⟨rfl, hI3, h3⟩
      have HB3 : Hid (Below w.heap.size w w3) := HB2.out.trans h3
      rw [List.append_assoc, ← HLN.out] at hI3
      have HI3 := Lib.hid hI3
      clear hI3 h3
      go_wp2
      go_roundw
      case rel => exact ⟨k + 1, by omega, by go_num, HI3.out, HB3.out⟩
      case measure => simp [intOf]; omega
    · obtain rfl : k = len := by omega
      clear hI hb
      go_wp2_with fail
      refine (bstring_any w.heap.size w.heap.size _ _ HI.out HB.out.size).mono ?_
      rintro e w1 ⟨rfl, h1⟩
      go_wp2
      go_ret
      exact ⟨rfl, HB.out.trans h1⟩
end Go.Proofs.YtmkmbocnipmngaaGreatDoor

/- Layer 6: the walk of AsmBack. -/
namespace Go.Proofs.YtmkmbocnipmngaaGreatDoor.asmBack
open Go.RowKit
set_option linter.unusedVariables false
set_option linter.unusedSimpArgs false

theorem tx_of {op rd rs1 rs2 imm csr : Int} (h : rightB op rd rs1 rs2 imm csr = true) (h0 : op ≠ 0) : txB op rd rs1 rs2 imm csr = true := by
  cases ho : opB op with
  | false => rw [rightB_no ho] at h; cases h
  | true =>
    have hn := opB_yes ho
    obtain ⟨k, rfl⟩ := Int.eq_ofNat_of_zero_le hn.1
    rw [rightB_nat (by omega)] at h
    unfold txB
    rw [decide_eq_true (show 1 ≤ (k : Int) ∧ (k : Int) < 58 by omega), Bool.true_and]
    exact h

set_option maxRecDepth 100000 in
set_option maxHeartbeats 4000000 in
theorem gen (op rd rs1 rs2 imm csr : Int) (a : Option Addr) (len cap : Nat) (f : Nat → Int) (w : World) (i0 : 0 ≤ imm) (i1 : imm < 4294967296) (hc : IsWords w a len f) (tf : FormTab w) (tn : NameTab w) (tm : MatchTab w) (te : EncTab w) (tp : PowTab w) (ts : SpTab w) :
    Calls Tryz.prog 3 #[.agg #[.int .i64 op, .int .i64 rd, .int .i64 rs1, .int .i64 rs2, .int .u32 imm, .int .i64 csr], .slice a len cap] w fun e w' => e = .returned (.bool true) ∧ Below w.heap.size w w' := by
  have hlm := hc.1
  unfold maxLen at hlm
  have HC : Hid (IsWords w a len f) := hc
  have HAW : Hid (∀ V, Below w.heap.size w V → Calls Tryz.prog 4 #[] V fun e w' => e = .returned (.bool true) ∧ Below V.heap.size V w') := fun V hV => awake6_any V (tf.below hV) (tn.below hV) (spTab_below ts hV) (te.below hV)
  have hW : Below w.heap.size w (w.alloc (.cells #[.int .i64 op, .int .i64 rd, .int .i64 rs1, .int .i64 rs2, .int .u32 imm, .int .i64 csr] 24)) := (Below.refl _ _).alloc (Nat.le_refl _) _
  have HS : Hid (SixT (w.alloc (.cells #[.int .i64 op, .int .i64 rd, .int .i64 rs1, .int .i64 rs2, .int .u32 imm, .int .i64 csr] 24)) w.heap.size op rd rs1 rs2 imm csr) := sixT_new w _ rfl _ _ _ _ _ _ _
  have HWB := Lib.hid hW
  clear hW
  by_cases hbig : 400 < len
  · clear tf tn tm te tp ts hc
    go_enter Tryz.func3, Tryz.ntmps3
    go_wp2_with fail
    refine (HAW.out _ HWB.out).mono ?_
    rintro e w1 ⟨rfl, hb⟩
    go_wp2
    go_ret
    exact ⟨rfl, HWB.out.trans (hb.mono HWB.out.size)⟩
  · have hfb : ∀ i, i < len → 0 ≤ f i ∧ f i < 4294967296 := fun i hi => by
      obtain ⟨_, _, _, _, x0, x1⟩ := hc.at hi
      exact ⟨x0, x1⟩
    have HLN : Hid (∀ V, Below w.heap.size w V → Calls Tryz.prog 9 #[.slice a len cap] V fun e w' => e = .returned (.string (bs (linesL f len))) ∧ Below V.heap.size V w') := fun V hV => linesP f a len cap V (by omega) (hc.on hV) (tf.below hV) (tn.below hV) (powTab_below tp hV) (tm.below hV)
    have HPG : Hid (∀ V, Below w.heap.size w V → Calls Tryz.prog 8 #[.string (bs (linesL f len))] V fun e w' => LaidAs ((List.range len).map f, 0, 0) V.heap.size e w' ∧ Below V.heap.size V w') := fun V hV => by
      have h := prog6_any (linesL f len) V (by have := lines_len f len; omega) (tf.below hV) (tn.below hV) (spTab_below ts hV) (te.below hV)
      rw [progG_lines len f (by omega) hfb] at h
      exact h
    have HRR : Hid (∀ V, Calls Tryz.prog 5 #[.agg #[.int .i64 op, .int .i64 rd, .int .i64 rs1, .int .i64 rs2, .int .u32 imm, .int .i64 csr]] V fun e w' => e = .returned (.bool (rightB op rd rs1 rs2 imm csr)) ∧ Below V.heap.size V w') := fun V => rright2_any op rd rs1 rs2 imm csr V i0 i1
    generalize hT : linesL f len = T at HLN HPG
    clear hT
    by_cases h0 : op = 0
    · subst h0
      clear tf tn tm te tp ts hc HRR HS hfb
      go_enter Tryz.func3, Tryz.ntmps3
      go_wp2_with fail
      generalize w.alloc (.cells #[.int .i64 0, .int .i64 rd, .int .i64 rs1, .int .i64 rs2, .int .u32 imm, .int .i64 csr] 24) = W3 at *
      have HB3 := HWB
      refine (HLN.out _ HB3.out).mono ?_
      rintro e w4 ⟨rfl, hb4⟩
      have HB4 : Hid (Below w.heap.size w w4) := HB3.out.trans (hb4.mono HB3.out.size)
      clear hb4
      go_wp2_with fail
      refine (HPG.out _ HB4.out).mono ?_
      rintro e w5 ⟨⟨vo, rfl, ho⟩, hb5⟩
      have HB5 : Hid (Below w.heap.size w w5) := HB4.out.trans (hb5.mono HB4.out.size)
      have HO : Hid (w5.ownsRow w4.heap.size 22 1 vo len (((List.range len).map f).map uV)) := by
        have h := ho
        dsimp only at h
        rw [List.length_map, List.length_range] at h
        exact h
      clear ho hb5
      obtain ⟨p5, c5, rfl⟩ := gown_slice HO.out
      dsimp only [List.length_map, List.length_range]
      try rw [List.length_map, List.length_range]
      go_wp2
      go_loopw [12] (fun i wr => ∃ k : Nat, k ≤ len ∧ i = .int .i64 k ∧ Q w5 wr) (fun i _ => len - (intOf i).toNat)
      case atStart => exact ⟨0, Nat.zero_le _, rfl, 0, rfl⟩
      case round =>
        obtain ⟨k, hk, rfl, m, rfl⟩ := hrel
        by_cases hlt : k < len
        · obtain ⟨b, off, rfl, hcell, x0, x1⟩ := (IsWords.on HC.out HB5.out).at hlt
          obtain ⟨g, cg, hsl⟩ := owned_some HO.out (by omega)
          simp only [Value.slice.injEq] at hsl
          obtain ⟨rfl, _, _⟩ := hsl
          have hx : w5.cell? ⟨g, k, none⟩ = some (.int .u32 (f k)) := by
            rw [HO.out.cellAt k (by omega)]
            simp [uV, hlt]
          clear HO HC HLN HPG
          generalize f k = x at hx hcell x0 x1
          have hlt' : (k : Int) < (len : Int) := by omega
          have hk0 : (0 : Int) ≤ (k : Int) := by omega
          go_wp2_with fail
          go_quiet (fail)
          go_wp2
          go_roundw
          case rel => exact ⟨k + 1, by omega, by go_num, _, rfl⟩
          case measure => simp [intOf]; omega
        · obtain rfl : k = len := by omega
          have HBm : Hid (Below w.heap.size w (w5.drewN m)) := HB5.out.trans (Q.below ⟨m, rfl⟩ _)
          go_wp2_with fail
          refine (HAW.out _ HBm.out).mono ?_
          rintro e w6 ⟨rfl, hb6⟩
          go_wp2
          go_ret
          exact ⟨rfl, HBm.out.trans (hb6.mono HBm.out.size)⟩
    · have hn : (op == 0) = false := by simpa using h0
      cases hr : rightB op rd rs1 rs2 imm csr
      · rw [hr] at HRR
        clear tf tn tm te tp ts hc hfb hr
        go_enter Tryz.func3, Tryz.ntmps3
        go_wp2_with fail
        generalize w.alloc (.cells #[.int .i64 op, .int .i64 rd, .int .i64 rs1, .int .i64 rs2, .int .u32 imm, .int .i64 csr] 24) = W1 at *
        refine (HRR.out _).mono ?_
        rintro e w3 ⟨rfl, hb3⟩
        have HB3 : Hid (Below w.heap.size w w3) := HWB.out.trans (hb3.mono HWB.out.size)
        clear hb3
        go_wp2_with fail
        refine (HLN.out _ HB3.out).mono ?_
        rintro e w4 ⟨rfl, hb4⟩
        have HB4 : Hid (Below w.heap.size w w4) := HB3.out.trans (hb4.mono HB3.out.size)
        clear hb4
        go_wp2_with fail
        refine (HPG.out _ HB4.out).mono ?_
        rintro e w5 ⟨⟨vo, rfl, ho⟩, hb5⟩
        have HB5 : Hid (Below w.heap.size w w5) := HB4.out.trans (hb5.mono HB4.out.size)
        have HO : Hid (w5.ownsRow w4.heap.size 22 1 vo len (((List.range len).map f).map uV)) := by
          have h := ho
          dsimp only at h
          rw [List.length_map, List.length_range] at h
          exact h
        clear ho hb5
        obtain ⟨p5, c5, rfl⟩ := gown_slice HO.out
        dsimp only [List.length_map, List.length_range]
        try rw [List.length_map, List.length_range]
        go_wp2
        go_loopw [12] (fun i wr => ∃ k : Nat, k ≤ len ∧ i = .int .i64 k ∧ Q w5 wr) (fun i _ => len - (intOf i).toNat)
        case atStart => exact ⟨0, Nat.zero_le _, rfl, 0, rfl⟩
        case round =>
          obtain ⟨k, hk, rfl, m, rfl⟩ := hrel
          by_cases hlt : k < len
          · obtain ⟨b, off, rfl, hcell, x0, x1⟩ := (IsWords.on HC.out HB5.out).at hlt
            obtain ⟨g, cg, hsl⟩ := owned_some HO.out (by omega)
            simp only [Value.slice.injEq] at hsl
            obtain ⟨rfl, _, _⟩ := hsl
            have hx : w5.cell? ⟨g, k, none⟩ = some (.int .u32 (f k)) := by
              rw [HO.out.cellAt k (by omega)]
              simp [uV, hlt]
            clear HO HC HLN HPG
            generalize f k = x at hx hcell x0 x1
            have hlt' : (k : Int) < (len : Int) := by omega
            have hk0 : (0 : Int) ≤ (k : Int) := by omega
            go_wp2_with fail
            go_quiet (fail)
            go_wp2
            go_roundw
            case rel => exact ⟨k + 1, by omega, by go_num, _, rfl⟩
            case measure => simp [intOf]; omega
          · obtain rfl : k = len := by omega
            have HBm : Hid (Below w.heap.size w (w5.drewN m)) := HB5.out.trans (Q.below ⟨m, rfl⟩ _)
            go_wp2_with fail
            refine (HAW.out _ HBm.out).mono ?_
            rintro e w6 ⟨rfl, hb6⟩
            go_wp2
            go_ret
            exact ⟨rfl, HBm.out.trans (hb6.mono HBm.out.size)⟩
      · rw [hr] at HRR
        have htx := tx_of hr h0
        have HTX : Hid (∀ V, Below w.heap.size w V → Calls Tryz.prog 6 #[.agg #[.int .i64 op, .int .i64 rd, .int .i64 rs1, .int .i64 rs2, .int .u32 imm, .int .i64 csr]] V fun e w' => e = .returned (.tuple #[.string (bs (textL op.toNat rd rs1 rs2 imm csr)), .int .i64 0]) ∧ Below V.heap.size V w') := fun V hV => textP op rd rs1 rs2 imm csr V i0 i1 (tf.below hV) (tn.below hV) (powTab_below tp hV) htx
        have HLI : Hid (∀ V, Below w.heap.size w V → Calls Tryz.prog 7 #[.string (bs (textL op.toNat rd rs1 rs2 imm csr))] V fun e w' => e = .returned (.tuple #[.agg #[.int .i64 op, .int .i64 rd, .int .i64 rs1, .int .i64 rs2, .int .u32 imm, .int .i64 csr], .int .i64 0]) ∧ Below V.heap.size V w') := fun V hV => by
          obtain ⟨k, hk, hkk, hk58, hk0, hrt⟩ := txB_t htx
          have h := line6_any (textL op.toNat rd rs1 rs2 imm csr) V (by have := text_len op.toNat (by omega) rd rs1 rs2 imm csr; omega) (tf.below hV) (tn.below hV) (spTab_below ts hV)
          rw [hkk, lineG_text k hk58 hk0 rd rs1 rs2 imm csr i0 i1 hrt, ← hk] at h
          rw [hkk]
          exact h
        generalize textL op.toNat rd rs1 rs2 imm csr = X at HTX HLI
        clear tf tn tm te tp ts hc hfb hr htx
        go_enter Tryz.func3, Tryz.ntmps3
        go_wp2_with fail
        generalize w.alloc (.cells #[.int .i64 op, .int .i64 rd, .int .i64 rs1, .int .i64 rs2, .int .u32 imm, .int .i64 csr] 24) = W1 at *
        refine (HRR.out _).mono ?_
        rintro e w1 ⟨rfl, hb1⟩
        have HB1 : Hid (Below w.heap.size w w1) := HWB.out.trans (hb1.mono HWB.out.size)
        have HS1 : Hid (SixT w1 w.heap.size op rd rs1 rs2 imm csr) := SixT.on HS.out hb1
        clear hb1 HS
        obtain ⟨c0, c1, c2, c3, c4, c5⟩ := HS1.out
        go_wp2_with fail
        refine (HTX.out _ HB1.out).mono ?_
        rintro e w2 ⟨rfl, hb2⟩
        have HB2 : Hid (Below w.heap.size w w2) := HB1.out.trans (hb2.mono HB1.out.size)
        have HS2 : Hid (SixT w2 w.heap.size op rd rs1 rs2 imm csr) := SixT.on HS1.out hb2
        clear hb2 HS1 c0 c1 c2 c3 c4 c5
        go_wp2_with fail
        refine (HLI.out _ HB2.out).mono ?_
        rintro e w3 ⟨rfl, hb3⟩
        have HB3 : Hid (Below w.heap.size w w3) := HB2.out.trans (hb3.mono HB2.out.size)
        have HS3 : Hid (SixT w3 w.heap.size op rd rs1 rs2 imm csr) := SixT.on HS2.out hb3
        clear hb3 HS2
        have hA : SixT (w3.alloc (.cells #[.int .i64 op, .int .i64 rd, .int .i64 rs1, .int .i64 rs2, .int .u32 imm, .int .i64 csr] 24)) w.heap.size op rd rs1 rs2 imm csr := SixT.on HS3.out ((Below.refl _ _).alloc (Nat.le_refl _) _)
        have hD : SixT (w3.alloc (.cells #[.int .i64 op, .int .i64 rd, .int .i64 rs1, .int .i64 rs2, .int .u32 imm, .int .i64 csr] 24)) w3.heap.size op rd rs1 rs2 imm csr := sixT_new w3 _ rfl _ _ _ _ _ _ _
        have HB3' : Hid (Below w.heap.size w (w3.alloc (.cells #[.int .i64 op, .int .i64 rd, .int .i64 rs1, .int .i64 rs2, .int .u32 imm, .int .i64 csr] 24))) := HB3.out.alloc HB3.out.size _
        clear HB3 HS3
        have HB3 := HB3'
        clear HB3'
        obtain ⟨c0, c1, c2, c3, c4, c5⟩ := hA
        obtain ⟨d0, d1, d2, d3, d4, d5⟩ := hD
        go_wp2_with fail
        clear c0 c1 c2 c3 c4 c5 d0 d1 d2 d3 d4 d5
        generalize w3.alloc (.cells #[.int .i64 op, .int .i64 rd, .int .i64 rs1, .int .i64 rs2, .int .u32 imm, .int .i64 csr] 24) = W3 at *
        refine (HLN.out _ HB3.out).mono ?_
        rintro e w4 ⟨rfl, hb4⟩
        have HB4 : Hid (Below w.heap.size w w4) := HB3.out.trans (hb4.mono HB3.out.size)
        clear hb4
        go_wp2_with fail
        refine (HPG.out _ HB4.out).mono ?_
        rintro e w5 ⟨⟨vo, rfl, ho⟩, hb5⟩
        have HB5 : Hid (Below w.heap.size w w5) := HB4.out.trans (hb5.mono HB4.out.size)
        have HO : Hid (w5.ownsRow w4.heap.size 22 1 vo len (((List.range len).map f).map uV)) := by
          have h := ho
          dsimp only at h
          rw [List.length_map, List.length_range] at h
          exact h
        clear ho hb5
        obtain ⟨p5, c5, rfl⟩ := gown_slice HO.out
        dsimp only [List.length_map, List.length_range]
        try rw [List.length_map, List.length_range]
        go_wp2
        go_loopw [12] (fun i wr => ∃ k : Nat, k ≤ len ∧ i = .int .i64 k ∧ Q w5 wr) (fun i _ => len - (intOf i).toNat)
        case atStart => exact ⟨0, Nat.zero_le _, rfl, 0, rfl⟩
        case round =>
          obtain ⟨k, hk, rfl, m, rfl⟩ := hrel
          by_cases hlt : k < len
          · obtain ⟨b, off, rfl, hcell, x0, x1⟩ := (IsWords.on HC.out HB5.out).at hlt
            obtain ⟨g, cg, hsl⟩ := owned_some HO.out (by omega)
            simp only [Value.slice.injEq] at hsl
            obtain ⟨rfl, _, _⟩ := hsl
            have hx : w5.cell? ⟨g, k, none⟩ = some (.int .u32 (f k)) := by
              rw [HO.out.cellAt k (by omega)]
              simp [uV, hlt]
            clear HO HC HLN HPG
            generalize f k = x at hx hcell x0 x1
            have hlt' : (k : Int) < (len : Int) := by omega
            have hk0 : (0 : Int) ≤ (k : Int) := by omega
            go_wp2_with fail
            go_quiet (fail)
            go_wp2
            go_roundw
            case rel => exact ⟨k + 1, by omega, by go_num, _, rfl⟩
            case measure => simp [intOf]; omega
          · obtain rfl : k = len := by omega
            have HBm : Hid (Below w.heap.size w (w5.drewN m)) := HB5.out.trans (Q.below ⟨m, rfl⟩ _)
            go_wp2_with fail
            refine (HAW.out _ HBm.out).mono ?_
            rintro e w6 ⟨rfl, hb6⟩
            go_wp2
            go_ret
            exact ⟨rfl, HBm.out.trans (hb6.mono HBm.out.size)⟩

theorem walk (op rd rs1 rs2 imm csr : Int) (a : Option Addr) (len cap : Nat) (z : List Int) (w : World) (w0 : (Lit.int .i64 op).wf = true) (w1 : (Lit.int .i64 rd).wf = true) (w2 : (Lit.int .i64 rs1).wf = true) (w3 : (Lit.int .i64 rs2).wf = true) (w4 : (Lit.int .u32 imm).wf = true) (w5 : (Lit.int .i64 csr).wf = true) (w6 : IsRow .u32 w a len cap z) (tf : FormTab w) (tn : NameTab w) (tm : MatchTab w) (te : EncTab w) (tp : PowTab w) (ts : SpTab w) :
    Calls Tryz.prog 3 #[.agg #[.int .i64 op, .int .i64 rd, .int .i64 rs1, .int .i64 rs2, .int .u32 imm, .int .i64 csr], .slice a len cap] w fun e w' => e = .returned (.bool true) ∧ Below w.heap.size w w' := by
  have h := bounds_u32 w4
  exact gen op rd rs1 rs2 imm csr a len cap _ w h.1 (by omega) (isWords_of w6) tf tn tm te tp ts
end Go.Proofs.YtmkmbocnipmngaaGreatDoor.asmBack
