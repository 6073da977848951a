/- Layer 2: what isImm and Right answer of any instruction. -/
import Derived.Test.YtakomdopeadcjaaDoorInstRight
namespace Go.Proofs.YtakomdopeadcjaaDoor
open Go.RowKit
set_option linter.unusedVariables false

theorem low12_and (x : Int) (h0 : 0 ≤ x) (h1 : x < 4294967296) : bits .and .u32 x 4095 = x % 4096 := by
  have a := and_low x 12 h0 h1 (by omega) (by omega)
  have p : pw 12 = 4096 := by decide
  rw [p] at a
  exact a

theorem pw11 : pw 11 = 2048 := by decide
theorem pw12 : pw 12 = 4096 := by decide
theorem pw20 : pw 20 = 1048576 := by decide

set_option maxHeartbeats 400000 in
theorem isImm_any (x f : Int) (hf : 0 ≤ f ∧ f < 10) (h0 : 0 ≤ x) (h1 : x < 4294967296) (w : World) :
    Calls Tryd.prog 39 #[.int .u32 x, .int .i64 f] w fun e w' => e = .returned (.bool (immB x f)) ∧ w' = w := by
  have h12 := low12_and x h0 h1
  rcases form10 hf with rfl | rfl | rfl | rfl | rfl | rfl | rfl | rfl | rfl | rfl
  · go_enter Tryd.func39, Tryd.ntmps39
    go_wp2
    go_ret
    exact ⟨ret_bool rfl, rfl⟩
  · go_enter Tryd.func39, Tryd.ntmps39
    go_wp2
    go_ret
    exact ⟨ret_bool rfl, rfl⟩
  · cases he : evenB x
    all_goals
      go_enter Tryd.func39, Tryd.ntmps39
      go_wp2_with (first | (go_at_call 58; refine (isEven_any _ h0 h1 _).mono ?_; rintro e w' ⟨rfl, hw⟩; have hw := hw.symm; subst hw) | (go_at_call 59; refine (isSigned_any _ _ (by omega) h0 h1 _).mono ?_; rintro e w' ⟨rfl, hw⟩; have hw := hw.symm; subst hw))
      go_ret
      exact ⟨ret_bool (by simp [immB, he]; try rw [← pw20]; try rfl), rfl⟩
  · go_enter Tryd.func39, Tryd.ntmps39
    go_wp2_with (first | (go_at_call 59; refine (isSigned_any _ _ (by omega) h0 h1 _).mono ?_; rintro e w' ⟨rfl, hw⟩; have hw := hw.symm; subst hw))
    go_ret
    exact ⟨ret_bool (by simp [immB]; try rw [← pw11]; try rfl), rfl⟩
  · cases he : evenB x
    all_goals
      go_enter Tryd.func39, Tryd.ntmps39
      go_wp2_with (first | (go_at_call 58; refine (isEven_any _ h0 h1 _).mono ?_; rintro e w' ⟨rfl, hw⟩; have hw := hw.symm; subst hw) | (go_at_call 59; refine (isSigned_any _ _ (by omega) h0 h1 _).mono ?_; rintro e w' ⟨rfl, hw⟩; have hw := hw.symm; subst hw))
      go_ret
      exact ⟨ret_bool (by simp [immB, he]; try rw [← pw12]; try rfl), rfl⟩
  · go_enter Tryd.func39, Tryd.ntmps39
    go_wp2_with (first | (go_at_call 59; refine (isSigned_any _ _ (by omega) h0 h1 _).mono ?_; rintro e w' ⟨rfl, hw⟩; have hw := hw.symm; subst hw))
    go_ret
    exact ⟨ret_bool (by simp [immB]; try rw [← pw11]; try rfl), rfl⟩
  · go_enter Tryd.func39, Tryd.ntmps39
    go_wp2
    go_ret
    exact ⟨ret_bool rfl, rfl⟩
  · go_enter Tryd.func39, Tryd.ntmps39
    go_wp2
    go_ret
    exact ⟨ret_bool (by simp [immB]; try omega), rfl⟩
  · go_enter Tryd.func39, Tryd.ntmps39
    go_wp2
    go_ret
    exact ⟨ret_bool rfl, rfl⟩
  · go_enter Tryd.func39, Tryd.ntmps39
    go_wp2
    go_ret
    exact ⟨ret_bool (by simp [immB]; try omega), rfl⟩

/-- Is an instruction right? -/
def rightOf (f rd rs1 rs2 imm csr : Int) : Bool :=
  partB rd (hasRdB f) 31 && (partB rs1 (hasRs1B f) 31 && (partB rs2 (hasRs2B f) 31 && (partB csr (hasCsrB f) 4095 && immB imm f)))
def rightB (op rd rs1 rs2 imm csr : Int) : Bool := opB op && rightOf (formZ op.toNat) rd rs1 rs2 imm csr
theorem rightB_no {op rd rs1 rs2 imm csr : Int} (h : opB op = false) : rightB op rd rs1 rs2 imm csr = false := by simp [rightB, h]
theorem rightB_nat {k : Nat} {rd rs1 rs2 imm csr : Int} (h : k < 58) : rightB k rd rs1 rs2 imm csr = rightOf (formZ k) rd rs1 rs2 imm csr := by
  simp [rightB, opB_t (n := (k : Int)) (by omega)]

set_option maxHeartbeats 400000 in
theorem iright_no (op rd rs1 rs2 imm csr : Int) (w : World) (h : opB op = false) :
    Calls Tryd.prog 19 #[.agg #[.int .i64 op, .int .i64 rd, .int .i64 rs1, .int .i64 rs2, .int .u32 imm, .int .i64 csr]] w fun e w' => e = .returned (.bool false) ∧ Below w.heap.size w w' := by
  go_enter Tryd.func19, Tryd.ntmps19
  go_wp2_with (go_at_call 33; refine (form_no _ _ h).mono ?_; rintro e w' ⟨rfl, rfl⟩)
  go_ret
  exact ⟨rfl, (Below.refl _ _).alloc (Nat.le_refl _) _⟩

set_option maxHeartbeats 1000000 in
theorem iright_yes (k : Nat) (rd rs1 rs2 imm csr : Int) (w : World) (hk : k < 58) (h0 : 0 ≤ imm) (h1 : imm < 4294967296) (ht : FormTab w) :
    Calls Tryd.prog 19 #[.agg #[.int .i64 k, .int .i64 rd, .int .i64 rs1, .int .i64 rs2, .int .u32 imm, .int .i64 csr]] w fun e w' => e = .returned (.bool (rightOf (formZ k) rd rs1 rs2 imm csr)) ∧ Below w.heap.size w w' := by
  have hf := formZ_lt k hk
  have HF : Hid (0 ≤ formZ k ∧ formZ k < 10) := hf
  have HT : Hid (FormTab w) := ht
  clear hf ht
  cases c1 : partB rd (hasRdB (formZ k)) 31 with
  | false =>
    go_enter Tryd.func19, Tryd.ntmps19
    go_wp2_with (go_at_call 33; refine (form_yes k hk _ (HT.out.below ((Below.refl _ _).alloc (Nat.le_refl _) _))).mono ?_; rintro e w' ⟨rfl, rfl⟩)
    go_quiet (first | (go_at_call 35; exact Calls.quiet_of_same (hasRd_any _ HF.out _)) | (go_at_call 34; exact Calls.quiet_of_same (isPart_any _ _ _ _)) | (go_at_call 36; exact Calls.quiet_of_same (hasRs1_any _ HF.out _)) | (go_at_call 37; exact Calls.quiet_of_same (hasRs2_any _ HF.out _)) | (go_at_call 38; exact Calls.quiet_of_same (hasCsr_any _ HF.out _)) | (go_at_call 39; exact Calls.quiet_of_same (isImm_any _ _ HF.out h0 h1 _)))
    go_wp2
    go_ret
    exact ⟨ret_bool (by simp [rightOf, c1]), ((Below.refl _ _).alloc (Nat.le_refl _) _).trans (Q.below ⟨_, rfl⟩ _)⟩
  | true =>
    cases c2 : partB rs1 (hasRs1B (formZ k)) 31 with
    | false =>
      go_enter Tryd.func19, Tryd.ntmps19
      go_wp2_with (go_at_call 33; refine (form_yes k hk _ (HT.out.below ((Below.refl _ _).alloc (Nat.le_refl _) _))).mono ?_; rintro e w' ⟨rfl, rfl⟩)
      go_quiet (first | (go_at_call 35; exact Calls.quiet_of_same (hasRd_any _ HF.out _)) | (go_at_call 34; exact Calls.quiet_of_same (isPart_any _ _ _ _)) | (go_at_call 36; exact Calls.quiet_of_same (hasRs1_any _ HF.out _)) | (go_at_call 37; exact Calls.quiet_of_same (hasRs2_any _ HF.out _)) | (go_at_call 38; exact Calls.quiet_of_same (hasCsr_any _ HF.out _)) | (go_at_call 39; exact Calls.quiet_of_same (isImm_any _ _ HF.out h0 h1 _)))
      go_wp2
      go_ret
      exact ⟨ret_bool (by simp [rightOf, c1, c2]), ((Below.refl _ _).alloc (Nat.le_refl _) _).trans (Q.below ⟨_, rfl⟩ _)⟩
    | true =>
      cases c3 : partB rs2 (hasRs2B (formZ k)) 31 with
      | false =>
        go_enter Tryd.func19, Tryd.ntmps19
        go_wp2_with (go_at_call 33; refine (form_yes k hk _ (HT.out.below ((Below.refl _ _).alloc (Nat.le_refl _) _))).mono ?_; rintro e w' ⟨rfl, rfl⟩)
        go_quiet (first | (go_at_call 35; exact Calls.quiet_of_same (hasRd_any _ HF.out _)) | (go_at_call 34; exact Calls.quiet_of_same (isPart_any _ _ _ _)) | (go_at_call 36; exact Calls.quiet_of_same (hasRs1_any _ HF.out _)) | (go_at_call 37; exact Calls.quiet_of_same (hasRs2_any _ HF.out _)) | (go_at_call 38; exact Calls.quiet_of_same (hasCsr_any _ HF.out _)) | (go_at_call 39; exact Calls.quiet_of_same (isImm_any _ _ HF.out h0 h1 _)))
        go_wp2
        go_ret
        exact ⟨ret_bool (by simp [rightOf, c1, c2, c3]), ((Below.refl _ _).alloc (Nat.le_refl _) _).trans (Q.below ⟨_, rfl⟩ _)⟩
      | true =>
        cases c4 : partB csr (hasCsrB (formZ k)) 4095 with
        | false =>
          go_enter Tryd.func19, Tryd.ntmps19
          go_wp2_with (go_at_call 33; refine (form_yes k hk _ (HT.out.below ((Below.refl _ _).alloc (Nat.le_refl _) _))).mono ?_; rintro e w' ⟨rfl, rfl⟩)
          go_quiet (first | (go_at_call 35; exact Calls.quiet_of_same (hasRd_any _ HF.out _)) | (go_at_call 34; exact Calls.quiet_of_same (isPart_any _ _ _ _)) | (go_at_call 36; exact Calls.quiet_of_same (hasRs1_any _ HF.out _)) | (go_at_call 37; exact Calls.quiet_of_same (hasRs2_any _ HF.out _)) | (go_at_call 38; exact Calls.quiet_of_same (hasCsr_any _ HF.out _)) | (go_at_call 39; exact Calls.quiet_of_same (isImm_any _ _ HF.out h0 h1 _)))
          go_wp2
          go_ret
          exact ⟨ret_bool (by simp [rightOf, c1, c2, c3, c4]), ((Below.refl _ _).alloc (Nat.le_refl _) _).trans (Q.below ⟨_, rfl⟩ _)⟩
        | true =>
          go_enter Tryd.func19, Tryd.ntmps19
          go_wp2_with (go_at_call 33; refine (form_yes k hk _ (HT.out.below ((Below.refl _ _).alloc (Nat.le_refl _) _))).mono ?_; rintro e w' ⟨rfl, rfl⟩)
          go_quiet (first | (go_at_call 35; exact Calls.quiet_of_same (hasRd_any _ HF.out _)) | (go_at_call 34; exact Calls.quiet_of_same (isPart_any _ _ _ _)) | (go_at_call 36; exact Calls.quiet_of_same (hasRs1_any _ HF.out _)) | (go_at_call 37; exact Calls.quiet_of_same (hasRs2_any _ HF.out _)) | (go_at_call 38; exact Calls.quiet_of_same (hasCsr_any _ HF.out _)) | (go_at_call 39; exact Calls.quiet_of_same (isImm_any _ _ HF.out h0 h1 _)))
          go_wp2
          go_ret
          exact ⟨ret_bool (by simp [rightOf, c1, c2, c3, c4]), ((Below.refl _ _).alloc (Nat.le_refl _) _).trans (Q.below ⟨_, rfl⟩ _)⟩
end Go.Proofs.YtakomdopeadcjaaDoor
