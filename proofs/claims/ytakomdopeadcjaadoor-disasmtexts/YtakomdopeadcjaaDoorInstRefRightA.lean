/- Layer 2: the document's own Right, of any instruction. -/
import Derived.Test.YtakomdopeadcjaaDoorInstRefs
namespace Go.Proofs.YtakomdopeadcjaaDoor
open Go.RowKit
set_option linter.unusedVariables false

set_option maxHeartbeats 400000 in
theorem rright_no (op rd rs1 rs2 imm csr : Int) (w : World) (h : opB op = false) :
    Calls Tryd.prog 21 #[.agg #[.int .i64 op, .int .i64 rd, .int .i64 rs1, .int .i64 rs2, .int .u32 imm, .int .i64 csr]] w fun e w' => e = .returned (.bool false) ∧ Below w.heap.size w w' := by
  have hn := opB_no h
  by_cases h0 : op < 0
  · go_enter Tryd.func21, Tryd.ntmps21
    go_wp2
    go_ret
    exact ⟨rfl, (Below.refl _ _).alloc (Nat.le_refl _) _⟩
  · have h1 : 58 ≤ op := by omega
    go_enter Tryd.func21, Tryd.ntmps21
    go_wp2
    go_ret
    exact ⟨rfl, (Below.refl _ _).alloc (Nat.le_refl _) _⟩

set_option maxHeartbeats 1000000 in
theorem rright_0 (k : Nat) (rd rs1 rs2 imm csr : Int) (w : World) (hk : k < 58) (hz : formZ k = 0) (h0 : 0 ≤ imm) (h1 : imm < 4294967296) :
    Calls Tryd.prog 21 #[.agg #[.int .i64 k, .int .i64 rd, .int .i64 rs1, .int .i64 rs2, .int .u32 imm, .int .i64 csr]] w fun e w' => e = .returned (.bool (partB rd false 31 && (partB rs1 false 31 && (partB rs2 false 31 && (partB csr false 4095 && decide (imm = 0)))))) ∧ Below w.heap.size w w' := by
  cases c1 : partB rd false 31 with
  | false =>
    go_enter Tryd.func21, Tryd.ntmps21
    go_wp2_with (first | (go_at_call 24; refine (rform_any k hk _).mono ?_; rintro e w' ⟨rfl, rfl⟩; rw [hz]) | (go_at_call 44; refine (reg_any _ _ _).mono ?_; rintro e w' ⟨rfl, rfl⟩))
    go_ret
    exact ⟨ret_bool (by simp), (Below.refl _ _).alloc (Nat.le_refl _) _⟩
  | true =>
    cases c2 : partB rs1 false 31 with
    | false =>
      go_enter Tryd.func21, Tryd.ntmps21
      go_wp2_with (first | (go_at_call 24; refine (rform_any k hk _).mono ?_; rintro e w' ⟨rfl, rfl⟩; rw [hz]) | (go_at_call 44; refine (reg_any _ _ _).mono ?_; rintro e w' ⟨rfl, rfl⟩))
      go_ret
      exact ⟨ret_bool (by simp), (Below.refl _ _).alloc (Nat.le_refl _) _⟩
    | true =>
      cases c3 : partB rs2 false 31 with
      | false =>
        go_enter Tryd.func21, Tryd.ntmps21
        go_wp2_with (first | (go_at_call 24; refine (rform_any k hk _).mono ?_; rintro e w' ⟨rfl, rfl⟩; rw [hz]) | (go_at_call 44; refine (reg_any _ _ _).mono ?_; rintro e w' ⟨rfl, rfl⟩))
        go_ret
        exact ⟨ret_bool (by simp), (Below.refl _ _).alloc (Nat.le_refl _) _⟩
      | true =>
        by_cases d1 : csr < 0
        · have c4 : partB csr false 4095 = false := by simp [partB]; omega
          go_enter Tryd.func21, Tryd.ntmps21
          go_wp2_with (first | (go_at_call 24; refine (rform_any k hk _).mono ?_; rintro e w' ⟨rfl, rfl⟩; rw [hz]) | (go_at_call 44; refine (reg_any _ _ _).mono ?_; rintro e w' ⟨rfl, rfl⟩))
          go_ret
          exact ⟨ret_bool (by simp [c4]), (Below.refl _ _).alloc (Nat.le_refl _) _⟩
        · by_cases d2 : 4095 < csr
          · have c4 : partB csr false 4095 = false := by simp [partB]; omega
            go_enter Tryd.func21, Tryd.ntmps21
            go_wp2_with (first | (go_at_call 24; refine (rform_any k hk _).mono ?_; rintro e w' ⟨rfl, rfl⟩; rw [hz]) | (go_at_call 44; refine (reg_any _ _ _).mono ?_; rintro e w' ⟨rfl, rfl⟩))
            go_ret
            exact ⟨ret_bool (by simp [c4]), (Below.refl _ _).alloc (Nat.le_refl _) _⟩
          · by_cases d3 : csr = 0
            · have c4 : partB csr false 4095 = true := by simp [partB]; omega
              subst d3
              go_enter Tryd.func21, Tryd.ntmps21
              go_wp2_with (first | (go_at_call 24; refine (rform_any k hk _).mono ?_; rintro e w' ⟨rfl, rfl⟩; rw [hz]) | (go_at_call 44; refine (reg_any _ _ _).mono ?_; rintro e w' ⟨rfl, rfl⟩))
              go_ret
              exact ⟨ret_bool (by first | (rw [c4]; rfl) | rfl), (Below.refl _ _).alloc (Nat.le_refl _) _⟩
            · have c4 : partB csr false 4095 = false := by simp [partB]; omega
              have e0 : (csr != 0) = true := bne_iff_ne.2 d3
              go_enter Tryd.func21, Tryd.ntmps21
              go_wp2_with (first | (go_at_call 24; refine (rform_any k hk _).mono ?_; rintro e w' ⟨rfl, rfl⟩; rw [hz]) | (go_at_call 44; refine (reg_any _ _ _).mono ?_; rintro e w' ⟨rfl, rfl⟩))
              go_ret
              exact ⟨ret_bool (by simp [c4]), (Below.refl _ _).alloc (Nat.le_refl _) _⟩

set_option maxHeartbeats 1000000 in
theorem rright_1 (k : Nat) (rd rs1 rs2 imm csr : Int) (w : World) (hk : k < 58) (hz : formZ k = 1) (h0 : 0 ≤ imm) (h1 : imm < 4294967296) :
    Calls Tryd.prog 21 #[.agg #[.int .i64 k, .int .i64 rd, .int .i64 rs1, .int .i64 rs2, .int .u32 imm, .int .i64 csr]] w fun e w' => e = .returned (.bool (partB rd true 31 && (partB rs1 false 31 && (partB rs2 false 31 && (partB csr false 4095 && decide (imm % 4096 = 0)))))) ∧ Below w.heap.size w w' := by
  cases c1 : partB rd true 31 with
  | false =>
    go_enter Tryd.func21, Tryd.ntmps21
    go_wp2_with (first | (go_at_call 24; refine (rform_any k hk _).mono ?_; rintro e w' ⟨rfl, rfl⟩; rw [hz]) | (go_at_call 44; refine (reg_any _ _ _).mono ?_; rintro e w' ⟨rfl, rfl⟩))
    go_ret
    exact ⟨ret_bool (by simp), (Below.refl _ _).alloc (Nat.le_refl _) _⟩
  | true =>
    cases c2 : partB rs1 false 31 with
    | false =>
      go_enter Tryd.func21, Tryd.ntmps21
      go_wp2_with (first | (go_at_call 24; refine (rform_any k hk _).mono ?_; rintro e w' ⟨rfl, rfl⟩; rw [hz]) | (go_at_call 44; refine (reg_any _ _ _).mono ?_; rintro e w' ⟨rfl, rfl⟩))
      go_ret
      exact ⟨ret_bool (by simp), (Below.refl _ _).alloc (Nat.le_refl _) _⟩
    | true =>
      cases c3 : partB rs2 false 31 with
      | false =>
        go_enter Tryd.func21, Tryd.ntmps21
        go_wp2_with (first | (go_at_call 24; refine (rform_any k hk _).mono ?_; rintro e w' ⟨rfl, rfl⟩; rw [hz]) | (go_at_call 44; refine (reg_any _ _ _).mono ?_; rintro e w' ⟨rfl, rfl⟩))
        go_ret
        exact ⟨ret_bool (by simp), (Below.refl _ _).alloc (Nat.le_refl _) _⟩
      | true =>
        by_cases d1 : csr < 0
        · have c4 : partB csr false 4095 = false := by simp [partB]; omega
          go_enter Tryd.func21, Tryd.ntmps21
          go_wp2_with (first | (go_at_call 24; refine (rform_any k hk _).mono ?_; rintro e w' ⟨rfl, rfl⟩; rw [hz]) | (go_at_call 44; refine (reg_any _ _ _).mono ?_; rintro e w' ⟨rfl, rfl⟩))
          go_ret
          exact ⟨ret_bool (by simp [c4]), (Below.refl _ _).alloc (Nat.le_refl _) _⟩
        · by_cases d2 : 4095 < csr
          · have c4 : partB csr false 4095 = false := by simp [partB]; omega
            go_enter Tryd.func21, Tryd.ntmps21
            go_wp2_with (first | (go_at_call 24; refine (rform_any k hk _).mono ?_; rintro e w' ⟨rfl, rfl⟩; rw [hz]) | (go_at_call 44; refine (reg_any _ _ _).mono ?_; rintro e w' ⟨rfl, rfl⟩))
            go_ret
            exact ⟨ret_bool (by simp [c4]), (Below.refl _ _).alloc (Nat.le_refl _) _⟩
          · by_cases d3 : csr = 0
            · have c4 : partB csr false 4095 = true := by simp [partB]; omega
              subst d3
              go_enter Tryd.func21, Tryd.ntmps21
              go_wp2_with (first | (go_at_call 24; refine (rform_any k hk _).mono ?_; rintro e w' ⟨rfl, rfl⟩; rw [hz]) | (go_at_call 44; refine (reg_any _ _ _).mono ?_; rintro e w' ⟨rfl, rfl⟩))
              go_ret
              exact ⟨ret_bool (by first | (rw [c4]; rfl) | rfl), (Below.refl _ _).alloc (Nat.le_refl _) _⟩
            · have c4 : partB csr false 4095 = false := by simp [partB]; omega
              have e0 : (csr != 0) = true := bne_iff_ne.2 d3
              go_enter Tryd.func21, Tryd.ntmps21
              go_wp2_with (first | (go_at_call 24; refine (rform_any k hk _).mono ?_; rintro e w' ⟨rfl, rfl⟩; rw [hz]) | (go_at_call 44; refine (reg_any _ _ _).mono ?_; rintro e w' ⟨rfl, rfl⟩))
              go_ret
              exact ⟨ret_bool (by simp [c4]), (Below.refl _ _).alloc (Nat.le_refl _) _⟩

set_option maxHeartbeats 1000000 in
theorem rright_2 (k : Nat) (rd rs1 rs2 imm csr : Int) (w : World) (hk : k < 58) (hz : formZ k = 2) (h0 : 0 ≤ imm) (h1 : imm < 4294967296) :
    Calls Tryd.prog 21 #[.agg #[.int .i64 k, .int .i64 rd, .int .i64 rs1, .int .i64 rs2, .int .u32 imm, .int .i64 csr]] w fun e w' => e = .returned (.bool (partB rd true 31 && (partB rs1 false 31 && (partB rs2 false 31 && (partB csr false 4095 && (evenB imm && sgB imm 1048576)))))) ∧ Below w.heap.size w w' := by
  cases c1 : partB rd true 31 with
  | false =>
    go_enter Tryd.func21, Tryd.ntmps21
    go_wp2_with (first | (go_at_call 24; refine (rform_any k hk _).mono ?_; rintro e w' ⟨rfl, rfl⟩; rw [hz]) | (go_at_call 44; refine (reg_any _ _ _).mono ?_; rintro e w' ⟨rfl, rfl⟩) | (go_at_call 45; refine (rsgn21 _ h0 h1 _).mono ?_; rintro e w' ⟨rfl, rfl⟩))
    go_ret
    exact ⟨ret_bool (by simp), (Below.refl _ _).alloc (Nat.le_refl _) _⟩
  | true =>
    cases c2 : partB rs1 false 31 with
    | false =>
      go_enter Tryd.func21, Tryd.ntmps21
      go_wp2_with (first | (go_at_call 24; refine (rform_any k hk _).mono ?_; rintro e w' ⟨rfl, rfl⟩; rw [hz]) | (go_at_call 44; refine (reg_any _ _ _).mono ?_; rintro e w' ⟨rfl, rfl⟩) | (go_at_call 45; refine (rsgn21 _ h0 h1 _).mono ?_; rintro e w' ⟨rfl, rfl⟩))
      go_ret
      exact ⟨ret_bool (by simp), (Below.refl _ _).alloc (Nat.le_refl _) _⟩
    | true =>
      cases c3 : partB rs2 false 31 with
      | false =>
        go_enter Tryd.func21, Tryd.ntmps21
        go_wp2_with (first | (go_at_call 24; refine (rform_any k hk _).mono ?_; rintro e w' ⟨rfl, rfl⟩; rw [hz]) | (go_at_call 44; refine (reg_any _ _ _).mono ?_; rintro e w' ⟨rfl, rfl⟩) | (go_at_call 45; refine (rsgn21 _ h0 h1 _).mono ?_; rintro e w' ⟨rfl, rfl⟩))
        go_ret
        exact ⟨ret_bool (by simp), (Below.refl _ _).alloc (Nat.le_refl _) _⟩
      | true =>
        by_cases d1 : csr < 0
        · have c4 : partB csr false 4095 = false := by simp [partB]; omega
          go_enter Tryd.func21, Tryd.ntmps21
          go_wp2_with (first | (go_at_call 24; refine (rform_any k hk _).mono ?_; rintro e w' ⟨rfl, rfl⟩; rw [hz]) | (go_at_call 44; refine (reg_any _ _ _).mono ?_; rintro e w' ⟨rfl, rfl⟩) | (go_at_call 45; refine (rsgn21 _ h0 h1 _).mono ?_; rintro e w' ⟨rfl, rfl⟩))
          go_ret
          exact ⟨ret_bool (by simp [c4]), (Below.refl _ _).alloc (Nat.le_refl _) _⟩
        · by_cases d2 : 4095 < csr
          · have c4 : partB csr false 4095 = false := by simp [partB]; omega
            go_enter Tryd.func21, Tryd.ntmps21
            go_wp2_with (first | (go_at_call 24; refine (rform_any k hk _).mono ?_; rintro e w' ⟨rfl, rfl⟩; rw [hz]) | (go_at_call 44; refine (reg_any _ _ _).mono ?_; rintro e w' ⟨rfl, rfl⟩) | (go_at_call 45; refine (rsgn21 _ h0 h1 _).mono ?_; rintro e w' ⟨rfl, rfl⟩))
            go_ret
            exact ⟨ret_bool (by simp [c4]), (Below.refl _ _).alloc (Nat.le_refl _) _⟩
          · by_cases d3 : csr = 0
            · have c4 : partB csr false 4095 = true := by simp [partB]; omega
              subst d3
              go_enter Tryd.func21, Tryd.ntmps21
              go_wp2_with (first | (go_at_call 24; refine (rform_any k hk _).mono ?_; rintro e w' ⟨rfl, rfl⟩; rw [hz]) | (go_at_call 44; refine (reg_any _ _ _).mono ?_; rintro e w' ⟨rfl, rfl⟩) | (go_at_call 45; refine (rsgn21 _ h0 h1 _).mono ?_; rintro e w' ⟨rfl, rfl⟩))
              go_ret
              exact ⟨ret_bool (by first | (rw [c4]; rfl) | rfl), (Below.refl _ _).alloc (Nat.le_refl _) _⟩
            · have c4 : partB csr false 4095 = false := by simp [partB]; omega
              have e0 : (csr != 0) = true := bne_iff_ne.2 d3
              go_enter Tryd.func21, Tryd.ntmps21
              go_wp2_with (first | (go_at_call 24; refine (rform_any k hk _).mono ?_; rintro e w' ⟨rfl, rfl⟩; rw [hz]) | (go_at_call 44; refine (reg_any _ _ _).mono ?_; rintro e w' ⟨rfl, rfl⟩) | (go_at_call 45; refine (rsgn21 _ h0 h1 _).mono ?_; rintro e w' ⟨rfl, rfl⟩))
              go_ret
              exact ⟨ret_bool (by simp [c4]), (Below.refl _ _).alloc (Nat.le_refl _) _⟩

set_option maxHeartbeats 1000000 in
theorem rright_3 (k : Nat) (rd rs1 rs2 imm csr : Int) (w : World) (hk : k < 58) (hz : formZ k = 3) (h0 : 0 ≤ imm) (h1 : imm < 4294967296) :
    Calls Tryd.prog 21 #[.agg #[.int .i64 k, .int .i64 rd, .int .i64 rs1, .int .i64 rs2, .int .u32 imm, .int .i64 csr]] w fun e w' => e = .returned (.bool (partB rd true 31 && (partB rs1 true 31 && (partB rs2 false 31 && (partB csr false 4095 && sgB imm 2048))))) ∧ Below w.heap.size w w' := by
  cases c1 : partB rd true 31 with
  | false =>
    go_enter Tryd.func21, Tryd.ntmps21
    go_wp2_with (first | (go_at_call 24; refine (rform_any k hk _).mono ?_; rintro e w' ⟨rfl, rfl⟩; rw [hz]) | (go_at_call 44; refine (reg_any _ _ _).mono ?_; rintro e w' ⟨rfl, rfl⟩) | (go_at_call 45; refine (rsgn12 _ h0 h1 _).mono ?_; rintro e w' ⟨rfl, rfl⟩))
    go_ret
    exact ⟨ret_bool (by simp), (Below.refl _ _).alloc (Nat.le_refl _) _⟩
  | true =>
    cases c2 : partB rs1 true 31 with
    | false =>
      go_enter Tryd.func21, Tryd.ntmps21
      go_wp2_with (first | (go_at_call 24; refine (rform_any k hk _).mono ?_; rintro e w' ⟨rfl, rfl⟩; rw [hz]) | (go_at_call 44; refine (reg_any _ _ _).mono ?_; rintro e w' ⟨rfl, rfl⟩) | (go_at_call 45; refine (rsgn12 _ h0 h1 _).mono ?_; rintro e w' ⟨rfl, rfl⟩))
      go_ret
      exact ⟨ret_bool (by simp), (Below.refl _ _).alloc (Nat.le_refl _) _⟩
    | true =>
      cases c3 : partB rs2 false 31 with
      | false =>
        go_enter Tryd.func21, Tryd.ntmps21
        go_wp2_with (first | (go_at_call 24; refine (rform_any k hk _).mono ?_; rintro e w' ⟨rfl, rfl⟩; rw [hz]) | (go_at_call 44; refine (reg_any _ _ _).mono ?_; rintro e w' ⟨rfl, rfl⟩) | (go_at_call 45; refine (rsgn12 _ h0 h1 _).mono ?_; rintro e w' ⟨rfl, rfl⟩))
        go_ret
        exact ⟨ret_bool (by simp), (Below.refl _ _).alloc (Nat.le_refl _) _⟩
      | true =>
        by_cases d1 : csr < 0
        · have c4 : partB csr false 4095 = false := by simp [partB]; omega
          go_enter Tryd.func21, Tryd.ntmps21
          go_wp2_with (first | (go_at_call 24; refine (rform_any k hk _).mono ?_; rintro e w' ⟨rfl, rfl⟩; rw [hz]) | (go_at_call 44; refine (reg_any _ _ _).mono ?_; rintro e w' ⟨rfl, rfl⟩) | (go_at_call 45; refine (rsgn12 _ h0 h1 _).mono ?_; rintro e w' ⟨rfl, rfl⟩))
          go_ret
          exact ⟨ret_bool (by simp [c4]), (Below.refl _ _).alloc (Nat.le_refl _) _⟩
        · by_cases d2 : 4095 < csr
          · have c4 : partB csr false 4095 = false := by simp [partB]; omega
            go_enter Tryd.func21, Tryd.ntmps21
            go_wp2_with (first | (go_at_call 24; refine (rform_any k hk _).mono ?_; rintro e w' ⟨rfl, rfl⟩; rw [hz]) | (go_at_call 44; refine (reg_any _ _ _).mono ?_; rintro e w' ⟨rfl, rfl⟩) | (go_at_call 45; refine (rsgn12 _ h0 h1 _).mono ?_; rintro e w' ⟨rfl, rfl⟩))
            go_ret
            exact ⟨ret_bool (by simp [c4]), (Below.refl _ _).alloc (Nat.le_refl _) _⟩
          · by_cases d3 : csr = 0
            · have c4 : partB csr false 4095 = true := by simp [partB]; omega
              subst d3
              go_enter Tryd.func21, Tryd.ntmps21
              go_wp2_with (first | (go_at_call 24; refine (rform_any k hk _).mono ?_; rintro e w' ⟨rfl, rfl⟩; rw [hz]) | (go_at_call 44; refine (reg_any _ _ _).mono ?_; rintro e w' ⟨rfl, rfl⟩) | (go_at_call 45; refine (rsgn12 _ h0 h1 _).mono ?_; rintro e w' ⟨rfl, rfl⟩))
              go_ret
              exact ⟨ret_bool (by first | (rw [c4]; rfl) | rfl), (Below.refl _ _).alloc (Nat.le_refl _) _⟩
            · have c4 : partB csr false 4095 = false := by simp [partB]; omega
              have e0 : (csr != 0) = true := bne_iff_ne.2 d3
              go_enter Tryd.func21, Tryd.ntmps21
              go_wp2_with (first | (go_at_call 24; refine (rform_any k hk _).mono ?_; rintro e w' ⟨rfl, rfl⟩; rw [hz]) | (go_at_call 44; refine (reg_any _ _ _).mono ?_; rintro e w' ⟨rfl, rfl⟩) | (go_at_call 45; refine (rsgn12 _ h0 h1 _).mono ?_; rintro e w' ⟨rfl, rfl⟩))
              go_ret
              exact ⟨ret_bool (by simp [c4]), (Below.refl _ _).alloc (Nat.le_refl _) _⟩

set_option maxHeartbeats 1000000 in
theorem rright_4 (k : Nat) (rd rs1 rs2 imm csr : Int) (w : World) (hk : k < 58) (hz : formZ k = 4) (h0 : 0 ≤ imm) (h1 : imm < 4294967296) :
    Calls Tryd.prog 21 #[.agg #[.int .i64 k, .int .i64 rd, .int .i64 rs1, .int .i64 rs2, .int .u32 imm, .int .i64 csr]] w fun e w' => e = .returned (.bool (partB rd false 31 && (partB rs1 true 31 && (partB rs2 true 31 && (partB csr false 4095 && (evenB imm && sgB imm 4096)))))) ∧ Below w.heap.size w w' := by
  cases c1 : partB rd false 31 with
  | false =>
    go_enter Tryd.func21, Tryd.ntmps21
    go_wp2_with (first | (go_at_call 24; refine (rform_any k hk _).mono ?_; rintro e w' ⟨rfl, rfl⟩; rw [hz]) | (go_at_call 44; refine (reg_any _ _ _).mono ?_; rintro e w' ⟨rfl, rfl⟩) | (go_at_call 45; refine (rsgn13 _ h0 h1 _).mono ?_; rintro e w' ⟨rfl, rfl⟩))
    go_ret
    exact ⟨ret_bool (by simp), (Below.refl _ _).alloc (Nat.le_refl _) _⟩
  | true =>
    cases c2 : partB rs1 true 31 with
    | false =>
      go_enter Tryd.func21, Tryd.ntmps21
      go_wp2_with (first | (go_at_call 24; refine (rform_any k hk _).mono ?_; rintro e w' ⟨rfl, rfl⟩; rw [hz]) | (go_at_call 44; refine (reg_any _ _ _).mono ?_; rintro e w' ⟨rfl, rfl⟩) | (go_at_call 45; refine (rsgn13 _ h0 h1 _).mono ?_; rintro e w' ⟨rfl, rfl⟩))
      go_ret
      exact ⟨ret_bool (by simp), (Below.refl _ _).alloc (Nat.le_refl _) _⟩
    | true =>
      cases c3 : partB rs2 true 31 with
      | false =>
        go_enter Tryd.func21, Tryd.ntmps21
        go_wp2_with (first | (go_at_call 24; refine (rform_any k hk _).mono ?_; rintro e w' ⟨rfl, rfl⟩; rw [hz]) | (go_at_call 44; refine (reg_any _ _ _).mono ?_; rintro e w' ⟨rfl, rfl⟩) | (go_at_call 45; refine (rsgn13 _ h0 h1 _).mono ?_; rintro e w' ⟨rfl, rfl⟩))
        go_ret
        exact ⟨ret_bool (by simp), (Below.refl _ _).alloc (Nat.le_refl _) _⟩
      | true =>
        by_cases d1 : csr < 0
        · have c4 : partB csr false 4095 = false := by simp [partB]; omega
          go_enter Tryd.func21, Tryd.ntmps21
          go_wp2_with (first | (go_at_call 24; refine (rform_any k hk _).mono ?_; rintro e w' ⟨rfl, rfl⟩; rw [hz]) | (go_at_call 44; refine (reg_any _ _ _).mono ?_; rintro e w' ⟨rfl, rfl⟩) | (go_at_call 45; refine (rsgn13 _ h0 h1 _).mono ?_; rintro e w' ⟨rfl, rfl⟩))
          go_ret
          exact ⟨ret_bool (by simp [c4]), (Below.refl _ _).alloc (Nat.le_refl _) _⟩
        · by_cases d2 : 4095 < csr
          · have c4 : partB csr false 4095 = false := by simp [partB]; omega
            go_enter Tryd.func21, Tryd.ntmps21
            go_wp2_with (first | (go_at_call 24; refine (rform_any k hk _).mono ?_; rintro e w' ⟨rfl, rfl⟩; rw [hz]) | (go_at_call 44; refine (reg_any _ _ _).mono ?_; rintro e w' ⟨rfl, rfl⟩) | (go_at_call 45; refine (rsgn13 _ h0 h1 _).mono ?_; rintro e w' ⟨rfl, rfl⟩))
            go_ret
            exact ⟨ret_bool (by simp [c4]), (Below.refl _ _).alloc (Nat.le_refl _) _⟩
          · by_cases d3 : csr = 0
            · have c4 : partB csr false 4095 = true := by simp [partB]; omega
              subst d3
              go_enter Tryd.func21, Tryd.ntmps21
              go_wp2_with (first | (go_at_call 24; refine (rform_any k hk _).mono ?_; rintro e w' ⟨rfl, rfl⟩; rw [hz]) | (go_at_call 44; refine (reg_any _ _ _).mono ?_; rintro e w' ⟨rfl, rfl⟩) | (go_at_call 45; refine (rsgn13 _ h0 h1 _).mono ?_; rintro e w' ⟨rfl, rfl⟩))
              go_ret
              exact ⟨ret_bool (by first | (rw [c4]; rfl) | rfl), (Below.refl _ _).alloc (Nat.le_refl _) _⟩
            · have c4 : partB csr false 4095 = false := by simp [partB]; omega
              have e0 : (csr != 0) = true := bne_iff_ne.2 d3
              go_enter Tryd.func21, Tryd.ntmps21
              go_wp2_with (first | (go_at_call 24; refine (rform_any k hk _).mono ?_; rintro e w' ⟨rfl, rfl⟩; rw [hz]) | (go_at_call 44; refine (reg_any _ _ _).mono ?_; rintro e w' ⟨rfl, rfl⟩) | (go_at_call 45; refine (rsgn13 _ h0 h1 _).mono ?_; rintro e w' ⟨rfl, rfl⟩))
              go_ret
              exact ⟨ret_bool (by simp [c4]), (Below.refl _ _).alloc (Nat.le_refl _) _⟩
end Go.Proofs.YtakomdopeadcjaaDoor
