/- Layer 2: the document's own Right, of any instruction (whole). -/
import Derived.Test.YtakomdopeadcjaaDoorInstRefRightA
import Derived.Test.YtakomdopeadcjaaDoorInstRefRightB
namespace Go.Proofs.YtakomdopeadcjaaDoor
open Go.RowKit
set_option linter.unusedVariables false

theorem rright_yes (k : Nat) (rd rs1 rs2 imm csr : Int) (w : World) (hk : k < 58) (h0 : 0 ≤ imm) (h1 : imm < 4294967296) :
    Calls Tryd.prog 21 #[.agg #[.int .i64 k, .int .i64 rd, .int .i64 rs1, .int .i64 rs2, .int .u32 imm, .int .i64 csr]] w fun e w' => e = .returned (.bool (rightOf (formZ k) rd rs1 rs2 imm csr)) ∧ Below w.heap.size w w' := by
  rcases form10 (formZ_lt k hk) with hz | hz | hz | hz | hz | hz | hz | hz | hz | hz
  · have e : rightOf 0 rd rs1 rs2 imm csr = (partB rd false 31 && (partB rs1 false 31 && (partB rs2 false 31 && (partB csr false 4095 && decide (imm = 0))))) := rfl
    have h := rright_0 k rd rs1 rs2 imm csr w hk hz h0 h1
    rw [← e] at h
    rw [hz]
    exact h
  · have e : rightOf 1 rd rs1 rs2 imm csr = (partB rd true 31 && (partB rs1 false 31 && (partB rs2 false 31 && (partB csr false 4095 && decide (imm % 4096 = 0))))) := rfl
    have h := rright_1 k rd rs1 rs2 imm csr w hk hz h0 h1
    rw [← e] at h
    rw [hz]
    exact h
  · have e : rightOf 2 rd rs1 rs2 imm csr = (partB rd true 31 && (partB rs1 false 31 && (partB rs2 false 31 && (partB csr false 4095 && (evenB imm && sgB imm 1048576))))) := rfl
    have h := rright_2 k rd rs1 rs2 imm csr w hk hz h0 h1
    rw [← e] at h
    rw [hz]
    exact h
  · have e : rightOf 3 rd rs1 rs2 imm csr = (partB rd true 31 && (partB rs1 true 31 && (partB rs2 false 31 && (partB csr false 4095 && sgB imm 2048)))) := rfl
    have h := rright_3 k rd rs1 rs2 imm csr w hk hz h0 h1
    rw [← e] at h
    rw [hz]
    exact h
  · have e : rightOf 4 rd rs1 rs2 imm csr = (partB rd false 31 && (partB rs1 true 31 && (partB rs2 true 31 && (partB csr false 4095 && (evenB imm && sgB imm 4096))))) := rfl
    have h := rright_4 k rd rs1 rs2 imm csr w hk hz h0 h1
    rw [← e] at h
    rw [hz]
    exact h
  · have e : rightOf 5 rd rs1 rs2 imm csr = (partB rd false 31 && (partB rs1 true 31 && (partB rs2 true 31 && (partB csr false 4095 && sgB imm 2048)))) := rfl
    have h := rright_5 k rd rs1 rs2 imm csr w hk hz h0 h1
    rw [← e] at h
    rw [hz]
    exact h
  · have e : rightOf 6 rd rs1 rs2 imm csr = (partB rd true 31 && (partB rs1 true 31 && (partB rs2 true 31 && (partB csr false 4095 && decide (imm = 0))))) := rfl
    have h := rright_6 k rd rs1 rs2 imm csr w hk hz h0 h1
    rw [← e] at h
    rw [hz]
    exact h
  · have e : rightOf 7 rd rs1 rs2 imm csr = (partB rd true 31 && (partB rs1 true 31 && (partB rs2 false 31 && (partB csr false 4095 && decide (imm < 32))))) := rfl
    have h := rright_7 k rd rs1 rs2 imm csr w hk hz h0 h1
    rw [← e] at h
    rw [hz]
    exact h
  · have e : rightOf 8 rd rs1 rs2 imm csr = (partB rd true 31 && (partB rs1 true 31 && (partB rs2 false 31 && (partB csr true 4095 && decide (imm = 0))))) := rfl
    have h := rright_8 k rd rs1 rs2 imm csr w hk hz h0 h1
    rw [← e] at h
    rw [hz]
    exact h
  · have e : rightOf 9 rd rs1 rs2 imm csr = (partB rd true 31 && (partB rs1 false 31 && (partB rs2 false 31 && (partB csr true 4095 && decide (imm < 32))))) := rfl
    have h := rright_9 k rd rs1 rs2 imm csr w hk hz h0 h1
    rw [← e] at h
    rw [hz]
    exact h
end Go.Proofs.YtakomdopeadcjaaDoor
