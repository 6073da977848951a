/- Layer 4: the document's own Encode, form by form. -/
import Derived.Test.YtlceglloikamnaaDoorEncRef
namespace Go.Proofs.YtlceglloikamnaaDoor
open Go.RowKit
set_option linter.unusedVariables false

set_option maxHeartbeats 1000000 in
theorem renc_8 (j : Nat) (hz : formZ (j + 1) = 8) (rd rs1 rs2 imm csr : Int) (w : World) (hj : j < 57) (i0 : 0 ≤ imm) (i1 : imm < 4294967296) (hr : rightOf (formZ (j + 1)) rd rs1 rs2 imm csr = true) :
    Calls Tryd.prog 9 #[.agg #[.int .i64 ((j : Int) + 1), .int .i64 rd, .int .i64 rs1, .int .i64 rs2, .int .u32 imm, .int .i64 csr]] w fun e w' => e = .returned (.tuple #[.int .u32 (encOf (j + 1) rd rs1 rs2 imm csr), .bool true]) ∧ Below w.heap.size w w' := by
  have hn : ((j : Int) + 1 == 0) = false := eneb (show j + 1 ≠ 0 by omega)
  have HR : Hid (∀ w, Calls Tryd.prog 22 #[.agg #[.int .i64 ((j : Int) + 1), .int .i64 rd, .int .i64 rs1, .int .i64 rs2, .int .u32 imm, .int .i64 csr]] w fun e w' => e = .returned (.bool true) ∧ Below w.heap.size w w') := fun w => by
    have := rright_yes (j + 1) rd rs1 rs2 imm csr w (by omega) i0 i1
    rw [hr] at this
    exact this
  obtain ⟨⟨m0, m1⟩, ⟨a0, a1⟩, ⟨b0, b1⟩, ⟨d0, d1⟩, ⟨e0, e1⟩, _⟩ := enc_puts (j + 1) (by omega) (by omega) rd rs1 rs2 imm csr _ rfl hr
  obtain ⟨p1, p2, p3, p4, _⟩ := right_parts _ _ _ _ _ _ hr
  have n1 := match_p1 (j + 1) (by omega) (by omega)
  have n2 := match_p2 (j + 1) (by omega) (by omega)
  have n3 := match_p3 (j + 1) (by omega) (by omega)
  clear hr
  generalize hm : matchL.getD (j + 1 - 1) 0 = m at *
  have HL : Hid (matchL.getD (j + 1 - 1) 0 = m) := hm
  clear hm
  have hff := hz
  rw [hz] at n1 n2 n3 p1 p2 p3 p4
  have HK : Hid (formZ (j + 1) = 8) := hff
  have HF : Hid (∀ w, Calls Tryd.prog 23 #[.int .i64 ((j : Int) + 1)] w fun e w' => e = .returned (.int .i64 8) ∧ w' = w) := fun w => by
    have := rform_any (j + 1) (by omega) w
    rw [hff] at this
    exact this
  clear hff hz
  have HM : Hid _ := And.intro n1 (And.intro n2 n3)
  have HP : Hid _ := And.intro p1 (And.intro p2 (And.intro p3 p4))
  clear n1 n2 n3 p1 p2 p3 p4
  have hS : SixC (w.alloc (.cells #[.int .i64 ((j : Int) + 1), .int .i64 rd, .int .i64 rs1, .int .i64 rs2, .int .u32 imm, .int .i64 csr] 24)) w.heap.size ((j : Int) + 1) rd rs1 rs2 imm csr := sixC_new w _ rfl _ _ _ _ _ _ _
  have hW : Below w.heap.size w (w.alloc (.cells #[.int .i64 ((j : Int) + 1), .int .i64 rd, .int .i64 rs1, .int .i64 rs2, .int .u32 imm, .int .i64 csr] 24)) := (Below.refl _ _).alloc (Nat.le_refl _) _
  have HS : Hid (SixC (w.alloc (.cells #[.int .i64 ((j : Int) + 1), .int .i64 rd, .int .i64 rs1, .int .i64 rs2, .int .u32 imm, .int .i64 csr] 24)) w.heap.size ((j : Int) + 1) rd rs1 rs2 imm csr) := hS
  clear hS
  have g0 : (0 : Int) ≤ (j : Int) := by omega
  have g1 : (j : Int) < 57 := by omega
  have g2 : IntKind.i64.wrap (j : Int) = j := by rw [IntKind.wrap_i64]; omega
  have g3 : IntKind.i64.wrap ((j : Int) + 1 - 1) = j := by rw [IntKind.wrap_i64]; omega
  go_enter Tryd.func9, Tryd.ntmps9
  go_wp2_with fail
  generalize (w.alloc (.cells #[.int .i64 ((j : Int) + 1), .int .i64 rd, .int .i64 rs1, .int .i64 rs2, .int .u32 imm, .int .i64 csr] 24)) = W at *
  refine (HR.out _).mono ?_
  rintro e w1 ⟨rfl, hb⟩
  have HS1 : Hid _ := HS.out.on hb
  have hW1 : Hid (Below w.heap.size w w1) := hW.trans (hb.mono hW.size)
  clear HS hb hW
  obtain ⟨c0, c1, c2, c3, c4, c5⟩ := HS1.out
  go_wp2_with fail
  refine (HF.out _).mono ?_
  rintro e w2 ⟨rfl, hw⟩
  have hw := hw.symm
  subst hw
  go_wp2_with fail
  go_region_with (first | (go_at_call 11; refine (patt_any j hj _).mono ?_; rintro e w3 ⟨rfl, hb3, hc⟩; rw [show matchL.getD j 0 = m from HL.out] at hc; have hc : w3.cell? ⟨w1.heap.size, j * 2 + 1, none⟩ = some (.int .u32 m) := hc; have hW3 : Hid (Below w.heap.size w w3) := Below.trans hW1.out.drew (hb3.mono hW1.out.size); have HS3 : Hid _ := SixC.on (SixC.on HS1.out ((Below.refl w1.heap.size w1).drew)) hb3; have k0 := HS3.out.1; clear hb3))
  all_goals (try clear e)
  all_goals (clear k0 hc; revert HS3; revert hW3; revert w3)
  refine ?key
  rotate_left
  exact ?key
  intro w3 _ hW3 HS3
  obtain ⟨n1, n2, n3⟩ := HM.out
  obtain ⟨p1, p2, p3, p4⟩ := HP.out
  clear HM HP HR HF HS1 hW1 c0 c1 c2 c3 c4 c5 g2 g3 hn
  have HX : Hid (True ∧ True ∧ rs2 = 0 ∧ True) := ⟨trivial, trivial, partB_n p3, trivial⟩
  obtain ⟨m3, m7, hm, ⟨_, _⟩, _, _⟩ := m_split2 m m0 (n2 (by simp))
  have HM : Hid (m = m3 * 4096 + m7) := hm
  clear hm
  clear n1 n2 n3 p1 p2 p3 p4
  obtain ⟨c0, c1, c2, c3, c4, c5⟩ := HS3.out
  have hz : m / 128 % 32 = 0 := by
    have q0 := HM.out
    exact free_of m 128 32 (m3 * 1) (m7 * 1) (by omega) (by omega) (by omega) (by omega)
  have HZ : Hid (m / 128 % 32 = 0) := hz
  clear hz
  go_wp2_with fail
  refine (eput_any 11 7 32 128 rd m _ m0 m1 (by omega) (by omega) (by omega) (by omega) (by omega) rfl rfl HZ.out).mono ?_
  clear HZ
  rintro e w4 ⟨rfl, hq, y4, z4⟩
  generalize hv : m + rd % 32 * 128 = x1 at y4 z4 ⊢
  have HV1 : Hid (m + rd * 128 = x1) := by show _ = _; omega
  clear hv
  have hW4 : Hid (Below w.heap.size w w4) := Below.trans hW3.out ((hq.below _).mono hW3.out.size)
  have HS4 : Hid (SixC w4 w.heap.size ((j : Int) + 1) rd rs1 rs2 imm csr) := SixC.on HS3.out (hq.below _)
  clear hq c0 c1 c2 c3 c4 c5 HS3 hW3
  obtain ⟨c0, c1, c2, c3, c4, c5⟩ := HS4.out
  have hz : x1 / 32768 % 32 = 0 := by
    have q0 := HM.out
    have q1 := HV1.out
    exact free_of x1 32768 32 (0) (m7 * 1 + m3 * 4096 + rd * 128) (by omega) (by omega) (by omega) (by omega)
  have HZ : Hid (x1 / 32768 % 32 = 0) := hz
  clear hz
  go_wp2_with fail
  refine (eput_any 19 15 32 32768 rs1 x1 _ y4 z4 (by omega) (by omega) (by omega) (by omega) (by omega) rfl rfl HZ.out).mono ?_
  clear HZ
  rintro e w5 ⟨rfl, hq, y5, z5⟩
  generalize hv : x1 + rs1 % 32 * 32768 = x2 at y5 z5 ⊢
  have HV2 : Hid (x1 + rs1 * 32768 = x2) := by show _ = _; omega
  clear hv
  have hW5 : Hid (Below w.heap.size w w5) := Below.trans hW4.out ((hq.below _).mono hW4.out.size)
  have HS5 : Hid (SixC w5 w.heap.size ((j : Int) + 1) rd rs1 rs2 imm csr) := SixC.on HS4.out (hq.below _)
  clear hq c0 c1 c2 c3 c4 c5 HS4 hW4
  obtain ⟨c0, c1, c2, c3, c4, c5⟩ := HS5.out
  have hz : x2 / 1048576 % 4096 = 0 := by
    have q0 := HM.out
    have q1 := HV1.out
    have q2 := HV2.out
    exact free_of x2 1048576 4096 (0) (m7 * 1 + m3 * 4096 + rd * 128 + rs1 * 32768) (by omega) (by omega) (by omega) (by omega)
  have HZ : Hid (x2 / 1048576 % 4096 = 0) := hz
  clear hz
  go_wp2_with fail
  refine (eput_any 31 20 4096 1048576 csr x2 _ y5 z5 (by omega) (by omega) (by omega) (by omega) (by omega) rfl rfl HZ.out).mono ?_
  clear HZ
  rintro e w6 ⟨rfl, hq, y6, z6⟩
  generalize hv : x2 + csr % 4096 * 1048576 = x3 at y6 z6 ⊢
  have HV3 : Hid (x2 + csr * 1048576 = x3) := by show _ = _; omega
  clear hv
  have hW6 : Hid (Below w.heap.size w w6) := Below.trans hW5.out ((hq.below _).mono hW5.out.size)
  have HS6 : Hid (SixC w6 w.heap.size ((j : Int) + 1) rd rs1 rs2 imm csr) := SixC.on HS5.out (hq.below _)
  clear hq c0 c1 c2 c3 c4 c5 HS5 hW5
  obtain ⟨c0, c1, c2, c3, c4, c5⟩ := HS6.out
  go_wp2
  go_ret2
  refine ⟨ret_pairb ?_, hW6.out⟩
  unfold encOf headOf
  rw [HL.out, HK.out, show immPut 8 imm = 0 from rfl]
  have q0 := HM.out
  have q1 := HV1.out
  have q2 := HV2.out
  have q3 := HV3.out
  have q4 := HX.out
  omega

end Go.Proofs.YtlceglloikamnaaDoor
