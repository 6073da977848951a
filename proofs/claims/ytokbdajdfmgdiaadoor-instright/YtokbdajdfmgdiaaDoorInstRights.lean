/- The walk of mimesislaw02.InstRight: it answers true and turns nothing that was there. -/
import Derived.Test.YtokbdajdfmgdiaaDoorInstAwake
import Derived.Test.YtokbdajdfmgdiaaDoorInstRefRight
import Derived.Test.YtokbdajdfmgdiaaDoorFrame
import Derived.Deep.RegionHeld3
namespace Go.Proofs.YtokbdajdfmgdiaaDoor
open Go.RowKit
set_option linter.unusedVariables false

/-- What was boxed lies there still. -/
theorem box_at {w w1 : World} {cs : Array Value} {t : TypeId} (hb : Below (w.alloc (.cells cs t)).heap.size (w.alloc (.cells cs t)) w1) (i : Nat) : w1.cell? ⟨w.heap.size, i, none⟩ = cs[i]? := by
  rw [hb.cell (p := ⟨w.heap.size, i, none⟩) (by simp), World.cell?_alloc_at cs t _ i rfl]

/-- What lay there lies there still. -/
theorem cell_on {W w1 : World} {b o : Nat} {p : Option Nat} {v : Value} (hb : Below W.heap.size W w1) (h : W.cell? ⟨b, o, p⟩ = some v) : w1.cell? ⟨b, o, p⟩ = some v := by
  rw [hb.cell (p := ⟨b, o, p⟩) (lt_of_cell h)]; exact h

theorem iright_any (op rd rs1 rs2 imm csr : Int) (w : World) (h0 : 0 ≤ imm) (h1 : imm < 4294967296) (ht : FormTab w) :
    Calls Tryd.prog 14 #[.agg #[.int .i64 op, .int .i64 rd, .int .i64 rs1, .int .i64 rs2, .int .u32 imm, .int .i64 csr]] w fun e w' => e = .returned (.bool (rightB op rd rs1 rs2 imm csr)) ∧ Below w.heap.size w w' := by
  cases ho : opB op with
  | false => rw [rightB_no ho]; exact iright_no op rd rs1 rs2 imm csr w ho
  | true =>
    have hn := opB_yes ho
    obtain ⟨k, rfl⟩ := Int.eq_ofNat_of_zero_le hn.1
    rw [rightB_nat (by omega)]
    exact iright_yes k rd rs1 rs2 imm csr w (by omega) h0 h1 ht

theorem rright2_any (op rd rs1 rs2 imm csr : Int) (w : World) (h0 : 0 ≤ imm) (h1 : imm < 4294967296) :
    Calls Tryd.prog 15 #[.agg #[.int .i64 op, .int .i64 rd, .int .i64 rs1, .int .i64 rs2, .int .u32 imm, .int .i64 csr]] w fun e w' => e = .returned (.bool (rightB op rd rs1 rs2 imm csr)) ∧ Below w.heap.size w w' := by
  cases ho : opB op with
  | false => rw [rightB_no ho]; exact rright_no op rd rs1 rs2 imm csr w ho
  | true =>
    have hn := opB_yes ho
    obtain ⟨k, rfl⟩ := Int.eq_ofNat_of_zero_le hn.1
    rw [rightB_nat (by omega)]
    exact rright_yes k rd rs1 rs2 imm csr w (by omega) h0 h1

namespace instRight
set_option maxHeartbeats 1000000 in
theorem walk (op rd rs1 rs2 imm csr : Int) (w : World) (w0 : (Lit.int .i64 op).wf = true) (w1 : (Lit.int .i64 rd).wf = true) (w2 : (Lit.int .i64 rs1).wf = true) (w3 : (Lit.int .i64 rs2).wf = true) (w4 : (Lit.int .u32 imm).wf = true) (w5 : (Lit.int .i64 csr).wf = true) (tf : FormTab w) (tn : NameTab w) :
    Calls Tryd.prog 5 #[.agg #[.int .i64 op, .int .i64 rd, .int .i64 rs1, .int .i64 rs2, .int .u32 imm, .int .i64 csr]] w fun e w' => e = .returned (.bool true) ∧ Below w.heap.size w w' := by
  have hi := bounds_u32 w4
  have hi' : imm < 4294967296 := by omega
  have TF : Hid (FormTab w) := tf
  have TN : Hid (NameTab w) := tn
  clear tf tn w0 w1 w2 w3 w4 w5
  go_enter Tryd.func5, Tryd.ntmps5
  go_wp2_with fail
  go_region_held3 (fun w' => w'.cell? ⟨w.heap.size, 0, none⟩ = some (.int .i64 op) ∧ w'.cell? ⟨w.heap.size, 1, none⟩ = some (.int .i64 rd) ∧ w'.cell? ⟨w.heap.size, 2, none⟩ = some (.int .i64 rs1) ∧ w'.cell? ⟨w.heap.size, 3, none⟩ = some (.int .i64 rs2) ∧ w'.cell? ⟨w.heap.size, 4, none⟩ = some (.int .u32 imm) ∧ w'.cell? ⟨w.heap.size, 5, none⟩ = some (.int .i64 csr)) (first | (refine ⟨?_, ?_, ?_, ?_, ?_, ?_⟩ <;> assumption) | simp)
    (first
      | (go_at_call 14; refine (iright_any op rd rs1 rs2 imm csr _ hi.1 hi' (TF.out.below (((Below.refl _ _).alloc (Nat.le_refl _) _).drew))).mono ?_; rintro e w1 ⟨rfl, hb1⟩; have HB1 : Below w.heap.size w w1 := (((Below.refl _ _).alloc (Nat.le_refl _) _).drew).trans (hb1.mono (by simp)); have p0 := cell_on hb1 (show World.cell? _ ⟨w.heap.size, 0, none⟩ = some (.int .i64 op) from by first | assumption | simp); have p1 := cell_on hb1 (show World.cell? _ ⟨w.heap.size, 1, none⟩ = some (.int .i64 rd) from by first | assumption | simp); have p2 := cell_on hb1 (show World.cell? _ ⟨w.heap.size, 2, none⟩ = some (.int .i64 rs1) from by first | assumption | simp); have p3 := cell_on hb1 (show World.cell? _ ⟨w.heap.size, 3, none⟩ = some (.int .i64 rs2) from by first | assumption | simp); have p4 := cell_on hb1 (show World.cell? _ ⟨w.heap.size, 4, none⟩ = some (.int .u32 imm) from by first | assumption | simp); have p5 := cell_on hb1 (show World.cell? _ ⟨w.heap.size, 5, none⟩ = some (.int .i64 csr) from by first | assumption | simp); clear hb1)
      | (go_at_call 15; refine (rright2_any op rd rs1 rs2 imm csr _ hi.1 hi').mono ?_; rintro e w2 ⟨rfl, hb2⟩; have HB2 : Below w.heap.size w w2 := HB1.trans (hb2.mono HB1.size); have q0 := cell_on hb2 (show World.cell? _ ⟨w.heap.size, 0, none⟩ = some (.int .i64 op) from by first | assumption | simp); have q1 := cell_on hb2 (show World.cell? _ ⟨w.heap.size, 1, none⟩ = some (.int .i64 rd) from by first | assumption | simp); have q2 := cell_on hb2 (show World.cell? _ ⟨w.heap.size, 2, none⟩ = some (.int .i64 rs1) from by first | assumption | simp); have q3 := cell_on hb2 (show World.cell? _ ⟨w.heap.size, 3, none⟩ = some (.int .i64 rs2) from by first | assumption | simp); have q4 := cell_on hb2 (show World.cell? _ ⟨w.heap.size, 4, none⟩ = some (.int .u32 imm) from by first | assumption | simp); have q5 := cell_on hb2 (show World.cell? _ ⟨w.heap.size, 5, none⟩ = some (.int .i64 csr) from by first | assumption | simp); clear hb2)
      | (go_at_call 10; refine (iawake_any _ (TF.out.below HB2) (TN.out.below HB2)).mono ?_; rintro e w3 ⟨rfl, hb3⟩; have HB3 : Below w.heap.size w w3 := HB2.trans (hb3.mono HB2.size); have r0 := cell_on hb3 (show World.cell? _ ⟨w.heap.size, 0, none⟩ = some (.int .i64 op) from by first | assumption | simp); have r1 := cell_on hb3 (show World.cell? _ ⟨w.heap.size, 1, none⟩ = some (.int .i64 rd) from by first | assumption | simp); have r2 := cell_on hb3 (show World.cell? _ ⟨w.heap.size, 2, none⟩ = some (.int .i64 rs1) from by first | assumption | simp); have r3 := cell_on hb3 (show World.cell? _ ⟨w.heap.size, 3, none⟩ = some (.int .i64 rs2) from by first | assumption | simp); have r4 := cell_on hb3 (show World.cell? _ ⟨w.heap.size, 4, none⟩ = some (.int .u32 imm) from by first | assumption | simp); have r5 := cell_on hb3 (show World.cell? _ ⟨w.heap.size, 5, none⟩ = some (.int .i64 csr) from by first | assumption | simp); clear hb3))
  all_goals go_wp2
  all_goals go_ret
  all_goals exact ⟨rfl, HB3⟩
end instRight
end Go.Proofs.YtokbdajdfmgdiaaDoor
