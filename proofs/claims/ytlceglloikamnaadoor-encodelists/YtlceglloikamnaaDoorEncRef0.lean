/- Layer 4: the document's own Encode, form by form. -/
import Derived.Test.YtlceglloikamnaaDoorEncRef
namespace Go.Proofs.YtlceglloikamnaaDoor
open Go.RowKit
set_option linter.unusedVariables false

set_option maxHeartbeats 1000000 in
theorem renc_0 (j : Nat) (hz : formZ (j + 1) = 0) (rd rs1 rs2 imm csr : Int) (w : World) (hj : j < 57) (i0 : 0 ≤ imm) (i1 : imm < 4294967296) (hr : rightOf (formZ (j + 1)) rd rs1 rs2 imm csr = true) :
    Calls Tryd.prog 9 #[.agg #[.int .i64 ((j : Int) + 1), .int .i64 rd, .int .i64 rs1, .int .i64 rs2, .int .u32 imm, .int .i64 csr]] w fun e w' => e = .returned (.tuple #[.int .u32 (encOf (j + 1) rd rs1 rs2 imm csr), .bool true]) ∧ Below w.heap.size w w' := by
  have hn : ((j : Int) + 1 == 0) = false := eneb (show j + 1 ≠ 0 by omega)
  have HR : Hid (∀ w, Calls Tryd.prog 22 #[.agg #[.int .i64 ((j : Int) + 1), .int .i64 rd, .int .i64 rs1, .int .i64 rs2, .int .u32 imm, .int .i64 csr]] w fun e w' => e = .returned (.bool true) ∧ Below w.heap.size w w') := fun w => by
    have := rright_yes (j + 1) rd rs1 rs2 imm csr w (by omega) i0 i1
    rw [hr] at this
    exact this
  obtain ⟨⟨m0, m1⟩, ⟨a0, a1⟩, ⟨b0, b1⟩, ⟨d0, d1⟩, ⟨e0, e1⟩, _⟩ := enc_puts (j + 1) (by omega) (by omega) rd rs1 rs2 imm csr _ rfl hr
  obtain ⟨p1, p2, p3, p4, _⟩ := right_parts _ _ _ _ _ _ hr
  have n1 := match_p1 (j + 1) (by omega) (by omega)
  have n2 := match_p2 (j + 1) (by omega) (by omega)
  have n3 := match_p3 (j + 1) (by omega) (by omega)
  clear hr
  generalize hm : matchL.getD (j + 1 - 1) 0 = m at *
  have HL : Hid (matchL.getD (j + 1 - 1) 0 = m) := hm
  clear hm
  have hff := hz
  rw [hz] at n1 n2 n3 p1 p2 p3 p4
  have HK : Hid (formZ (j + 1) = 0) := hff
  have HF : Hid (∀ w, Calls Tryd.prog 23 #[.int .i64 ((j : Int) + 1)] w fun e w' => e = .returned (.int .i64 0) ∧ w' = w) := fun w => by
    have := rform_any (j + 1) (by omega) w
    rw [hff] at this
    exact this
  clear hff hz
  have HM : Hid _ := And.intro n1 (And.intro n2 n3)
  have HP : Hid _ := And.intro p1 (And.intro p2 (And.intro p3 p4))
  clear n1 n2 n3 p1 p2 p3 p4
  have hS : SixC (w.alloc (.cells #[.int .i64 ((j : Int) + 1), .int .i64 rd, .int .i64 rs1, .int .i64 rs2, .int .u32 imm, .int .i64 csr] 24)) w.heap.size ((j : Int) + 1) rd rs1 rs2 imm csr := sixC_new w _ rfl _ _ _ _ _ _ _
  have hW : Below w.heap.size w (w.alloc (.cells #[.int .i64 ((j : Int) + 1), .int .i64 rd, .int .i64 rs1, .int .i64 rs2, .int .u32 imm, .int .i64 csr] 24)) := (Below.refl _ _).alloc (Nat.le_refl _) _
  have HS : Hid (SixC (w.alloc (.cells #[.int .i64 ((j : Int) + 1), .int .i64 rd, .int .i64 rs1, .int .i64 rs2, .int .u32 imm, .int .i64 csr] 24)) w.heap.size ((j : Int) + 1) rd rs1 rs2 imm csr) := hS
  clear hS
  have g0 : (0 : Int) ≤ (j : Int) := by omega
  have g1 : (j : Int) < 57 := by omega
  have g2 : IntKind.i64.wrap (j : Int) = j := by rw [IntKind.wrap_i64]; omega
  have g3 : IntKind.i64.wrap ((j : Int) + 1 - 1) = j := by rw [IntKind.wrap_i64]; omega
  go_enter Tryd.func9, Tryd.ntmps9
  go_wp2_with fail
  generalize (w.alloc (.cells #[.int .i64 ((j : Int) + 1), .int .i64 rd, .int .i64 rs1, .int .i64 rs2, .int .u32 imm, .int .i64 csr] 24)) = W at *
  refine (HR.out _).mono ?_
  rintro e w1 ⟨rfl, hb⟩
  have HS1 : Hid _ := HS.out.on hb
  have hW1 : Hid (Below w.heap.size w w1) := hW.trans (hb.mono hW.size)
  clear HS hb hW
  obtain ⟨c0, c1, c2, c3, c4, c5⟩ := HS1.out
  go_wp2_with fail
  refine (HF.out _).mono ?_
  rintro e w2 ⟨rfl, hw⟩
  have hw := hw.symm
  subst hw
  go_wp2_with fail
  go_region_with (first | (go_at_call 11; refine (patt_any j hj _).mono ?_; rintro e w3 ⟨rfl, hb3, hc⟩; rw [show matchL.getD j 0 = m from HL.out] at hc; have hc : w3.cell? ⟨w1.heap.size, j * 2 + 1, none⟩ = some (.int .u32 m) := hc; have hW3 : Hid (Below w.heap.size w w3) := Below.trans hW1.out.drew (hb3.mono hW1.out.size); have HS3 : Hid _ := SixC.on (SixC.on HS1.out ((Below.refl w1.heap.size w1).drew)) hb3; have k0 := HS3.out.1; clear hb3))
  all_goals (try clear e)
  all_goals (clear k0 hc; revert HS3; revert hW3; revert w3)
  refine ?key
  rotate_left
  exact ?key
  intro w3 _ hW3 HS3
  obtain ⟨n1, n2, n3⟩ := HM.out
  obtain ⟨p1, p2, p3, p4⟩ := HP.out
  clear HM HP HR HF HS1 hW1 c0 c1 c2 c3 c4 c5 g2 g3 hn
  have HX : Hid (rd = 0 ∧ rs1 = 0 ∧ rs2 = 0 ∧ csr = 0) := ⟨partB_n p1, partB_n p2, partB_n p3, partB_n p4⟩
  clear n1 n2 n3 p1 p2 p3 p4
  obtain ⟨c0, c1, c2, c3, c4, c5⟩ := HS3.out
  go_wp2
  go_ret2
  refine ⟨ret_pairb ?_, hW3.out⟩
  unfold encOf headOf
  rw [HL.out, HK.out, show immPut 0 imm = 0 from rfl]
  have q0 := HX.out
  omega

end Go.Proofs.YtlceglloikamnaaDoor
