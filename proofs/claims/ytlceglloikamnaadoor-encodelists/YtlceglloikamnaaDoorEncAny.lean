/- Layer 4: Encode and the document's own, of any instruction, by one test; awake. -/
import Derived.Test.YtlceglloikamnaaDoorEncRef0
import Derived.Test.YtlceglloikamnaaDoorEncRef1
import Derived.Test.YtlceglloikamnaaDoorEncRef2
import Derived.Test.YtlceglloikamnaaDoorEncRef3
import Derived.Test.YtlceglloikamnaaDoorEncRef4
import Derived.Test.YtlceglloikamnaaDoorEncRef5
import Derived.Test.YtlceglloikamnaaDoorEncRef6
import Derived.Test.YtlceglloikamnaaDoorEncRef7
import Derived.Test.YtlceglloikamnaaDoorEncRef8
import Derived.Test.YtlceglloikamnaaDoorEncRef9
import Derived.Test.YtlceglloikamnaaDoorEncBackMath
namespace Go.Proofs.YtlceglloikamnaaDoor
open Go.RowKit
set_option linter.unusedVariables false

theorem renc_yes (j : Nat) (rd rs1 rs2 imm csr : Int) (w : World) (hj : j < 57) (i0 : 0 ≤ imm) (i1 : imm < 4294967296) (hr : rightOf (formZ (j + 1)) rd rs1 rs2 imm csr = true) :
    Calls Tryd.prog 9 #[.agg #[.int .i64 ((j : Int) + 1), .int .i64 rd, .int .i64 rs1, .int .i64 rs2, .int .u32 imm, .int .i64 csr]] w fun e w' => e = .returned (.tuple #[.int .u32 (encOf (j + 1) rd rs1 rs2 imm csr), .bool true]) ∧ Below w.heap.size w w' := by
  rcases form10 (formZ_lt (j + 1) (by omega)) with hz | hz | hz | hz | hz | hz | hz | hz | hz | hz
  · exact renc_0 j hz rd rs1 rs2 imm csr w hj i0 i1 hr
  · exact renc_1 j hz rd rs1 rs2 imm csr w hj i0 i1 hr
  · exact renc_2 j hz rd rs1 rs2 imm csr w hj i0 i1 hr
  · exact renc_3 j hz rd rs1 rs2 imm csr w hj i0 i1 hr
  · exact renc_4 j hz rd rs1 rs2 imm csr w hj i0 i1 hr
  · exact renc_5 j hz rd rs1 rs2 imm csr w hj i0 i1 hr
  · exact renc_6 j hz rd rs1 rs2 imm csr w hj i0 i1 hr
  · exact renc_7 j hz rd rs1 rs2 imm csr w hj i0 i1 hr
  · exact renc_8 j hz rd rs1 rs2 imm csr w hj i0 i1 hr
  · exact renc_9 j hz rd rs1 rs2 imm csr w hj i0 i1 hr

/-- Has it a word? Which? -/
def okB (op rd rs1 rs2 imm csr : Int) : Bool := decide (1 ≤ op ∧ op < 58) && rightOf (formZ op.toNat) rd rs1 rs2 imm csr
def wordOf (op rd rs1 rs2 imm csr : Int) : Int := encOf op.toNat rd rs1 rs2 imm csr

theorem okB_t {op rd rs1 rs2 imm csr : Int} (h : okB op rd rs1 rs2 imm csr = true) : ∃ j : Nat, op = (j : Int) + 1 ∧ j < 57 ∧ op.toNat = j + 1 ∧ rightOf (formZ (j + 1)) rd rs1 rs2 imm csr = true := by
  unfold okB at h
  simp only [Bool.and_eq_true, decide_eq_true_eq] at h
  obtain ⟨⟨h1, h2⟩, h3⟩ := h
  have e : op.toNat = (op - 1).toNat + 1 := by omega
  refine ⟨(op - 1).toNat, by omega, by omega, e, ?_⟩
  rw [← e]; exact h3
theorem okB_f {op rd rs1 rs2 imm csr : Int} (h : okB op rd rs1 rs2 imm csr = false) : ¬ (1 ≤ op ∧ op < 58) ∨ ∃ k : Nat, op = k ∧ k < 58 ∧ k ≠ 0 ∧ rightOf (formZ k) rd rs1 rs2 imm csr = false := by
  by_cases c : 1 ≤ op ∧ op < 58
  · refine .inr ⟨op.toNat, by omega, by omega, by omega, ?_⟩
    unfold okB at h
    rw [decide_eq_true c, Bool.true_and] at h
    exact h
  · exact .inl c

theorem word_bd {op rd rs1 rs2 imm csr : Int} (i0 : 0 ≤ imm) (i1 : imm < 4294967296) (h : okB op rd rs1 rs2 imm csr = true) : 0 ≤ wordOf op rd rs1 rs2 imm csr ∧ wordOf op rd rs1 rs2 imm csr < 4294967296 := by
  obtain ⟨j, e, hj, et, hr⟩ := okB_t h
  unfold wordOf
  rw [et]
  exact (enc_read (j + 1) (by omega) (by omega) rd rs1 rs2 imm csr i0 i1 hr).1

theorem ins_back {op rd rs1 rs2 imm csr : Int} (i0 : 0 ≤ imm) (i1 : imm < 4294967296) (h : okB op rd rs1 rs2 imm csr = true) : insV (wordOf op rd rs1 rs2 imm csr) = .agg #[.int .i64 op, .int .i64 rd, .int .i64 rs1, .int .i64 rs2, .int .u32 imm, .int .i64 csr] := by
  obtain ⟨j, e, hj, et, hr⟩ := okB_t h
  obtain ⟨_, e0, e1, e2, e3, e4, e5⟩ := enc_read (j + 1) (by omega) (by omega) rd rs1 rs2 imm csr i0 i1 hr
  unfold insV wordOf
  rw [et, e0, e1, e2, e3, e4, e5, e]
  rfl

theorem enc_t (op rd rs1 rs2 imm csr : Int) (w : World) (i0 : 0 ≤ imm) (i1 : imm < 4294967296) (h : okB op rd rs1 rs2 imm csr = true) (tf : FormTab w) (tm : EncTab w) :
    Calls Tryd.prog 7 #[.agg #[.int .i64 op, .int .i64 rd, .int .i64 rs1, .int .i64 rs2, .int .u32 imm, .int .i64 csr]] w fun e w' => e = .returned (.tuple #[.int .u32 (wordOf op rd rs1 rs2 imm csr), .int .i64 0]) ∧ Below w.heap.size w w' := by
  obtain ⟨j, e, hj, et, hr⟩ := okB_t h
  unfold wordOf
  rw [et, e]
  exact enc_yes (j + 1) rd rs1 rs2 imm csr w (by omega) (by omega) i0 i1 hr tf tm
theorem enc_f (op rd rs1 rs2 imm csr : Int) (w : World) (i0 : 0 ≤ imm) (i1 : imm < 4294967296) (h : okB op rd rs1 rs2 imm csr = false) (tf : FormTab w) (tm : EncTab w) :
    Calls Tryd.prog 7 #[.agg #[.int .i64 op, .int .i64 rd, .int .i64 rs1, .int .i64 rs2, .int .u32 imm, .int .i64 csr]] w fun e w' => e = .returned (.tuple #[.int .u32 0, .int .i64 9]) ∧ Below w.heap.size w w' := by
  rcases okB_f h with hb | ⟨k, rfl, hk, hk0, hr⟩
  · exact enc_bad op rd rs1 rs2 imm csr w hb
  · exact enc_no k rd rs1 rs2 imm csr w hk hk0 i0 i1 hr tf tm

theorem renc_t (op rd rs1 rs2 imm csr : Int) (w : World) (i0 : 0 ≤ imm) (i1 : imm < 4294967296) (h : okB op rd rs1 rs2 imm csr = true) :
    Calls Tryd.prog 9 #[.agg #[.int .i64 op, .int .i64 rd, .int .i64 rs1, .int .i64 rs2, .int .u32 imm, .int .i64 csr]] w fun e w' => e = .returned (.tuple #[.int .u32 (wordOf op rd rs1 rs2 imm csr), .bool true]) ∧ Below w.heap.size w w' := by
  obtain ⟨j, e, hj, et, hr⟩ := okB_t h
  unfold wordOf
  rw [et, e]
  exact renc_yes j rd rs1 rs2 imm csr w hj i0 i1 hr

theorem renc_f (op rd rs1 rs2 imm csr : Int) (w : World) (i0 : 0 ≤ imm) (i1 : imm < 4294967296) (h : okB op rd rs1 rs2 imm csr = false) :
    Calls Tryd.prog 9 #[.agg #[.int .i64 op, .int .i64 rd, .int .i64 rs1, .int .i64 rs2, .int .u32 imm, .int .i64 csr]] w fun e w' => e = .returned (.tuple #[.int .u32 0, .bool false]) ∧ Below w.heap.size w w' := by
  rcases okB_f h with hb | ⟨k, rfl, hk, hk0, hr⟩
  · exact renc_bad op rd rs1 rs2 imm csr w hb
  · exact renc_no k rd rs1 rs2 imm csr w hk hk0 i0 i1 hr

theorem aw_ok : okB 19 1 0 0 10 0 = true := by decide +kernel
theorem aw_word : wordOf 19 1 0 0 10 0 = 10485907 := by decide +kernel

set_option maxHeartbeats 1000000 in
theorem eawake_any (w : World) (tf : FormTab w) (tm : EncTab w) : Calls Tryd.prog 10 #[] w fun e w' => e = .returned (.bool true) ∧ Below w.heap.size w w' := by
  have HF : Hid (FormTab w) := tf
  have HM : Hid (EncTab w) := tm
  clear tf tm
  go_enter Tryd.func10, Tryd.ntmps10
  go_wp2_with fail
  refine (enc_t 19 1 0 0 10 0 _ (by omega) (by omega) aw_ok HF.out HM.out).mono ?_
  rw [aw_word]
  rintro e w1 ⟨rfl, hb⟩
  go_wp2_with fail
  refine (ematch_yes 48 807403635 (by decide +kernel) (by omega) (by omega) _ (EncTab.below HM.out hb)).mono ?_
  rintro e w2 ⟨rfl, hw⟩
  subst hw
  go_wp2
  go_ret
  exact ⟨rfl, hb⟩
end Go.Proofs.YtlceglloikamnaaDoor
