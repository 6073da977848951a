/- Layer 4: the document's own Encode, form by form. -/
import Derived.Test.YtlceglloikamnaaDoorEncRef
namespace Go.Proofs.YtlceglloikamnaaDoor
open Go.RowKit
set_option linter.unusedVariables false

theorem b_last (m m3 m7 rs1 rs2 v3 v5 v7 x1 x2 x4 x6 x8 : Int) (q0 : m = m3 * 4096 + m7) (q1 : m + rs1 * 32768 = x1) (q2 : x1 + rs2 * 1048576 = x2) (q3 : x2 + v3 * 2147483648 = x4) (q4 : x4 + v5 * 128 = x6) (q5 : x6 + v7 * 33554432 = x8)
    (h0 : 0 ≤ m7) (h1 : m7 < 128) (h2 : 0 ≤ v5) (h3 : v5 < 2) : x8 / 256 % 16 = 0 := by
  subst q0 q1 q2 q3 q4 q5
  exact free_of _ 256 16 (m3 * 1 + rs1 * 8 + rs2 * 256 + v3 * 524288 + v7 * 8192) (m7 * 1 + v5 * 128) (by decide) (by omega) (by omega) (by omega)

set_option maxHeartbeats 1000000 in
theorem renc_4 (j : Nat) (hz : formZ (j + 1) = 4) (rd rs1 rs2 imm csr : Int) (w : World) (hj : j < 57) (i0 : 0 ≤ imm) (i1 : imm < 4294967296) (hr : rightOf (formZ (j + 1)) rd rs1 rs2 imm csr = true) :
    Calls Tryd.prog 9 #[.agg #[.int .i64 ((j : Int) + 1), .int .i64 rd, .int .i64 rs1, .int .i64 rs2, .int .u32 imm, .int .i64 csr]] w fun e w' => e = .returned (.tuple #[.int .u32 (encOf (j + 1) rd rs1 rs2 imm csr), .bool true]) ∧ Below w.heap.size w w' := by
  have hn : ((j : Int) + 1 == 0) = false := eneb (show j + 1 ≠ 0 by omega)
  have HR : Hid (∀ w, Calls Tryd.prog 22 #[.agg #[.int .i64 ((j : Int) + 1), .int .i64 rd, .int .i64 rs1, .int .i64 rs2, .int .u32 imm, .int .i64 csr]] w fun e w' => e = .returned (.bool true) ∧ Below w.heap.size w w') := fun w => by
    have := rright_yes (j + 1) rd rs1 rs2 imm csr w (by omega) i0 i1
    rw [hr] at this
    exact this
  obtain ⟨⟨m0, m1⟩, ⟨a0, a1⟩, ⟨b0, b1⟩, ⟨d0, d1⟩, ⟨e0, e1⟩, _⟩ := enc_puts (j + 1) (by omega) (by omega) rd rs1 rs2 imm csr _ rfl hr
  obtain ⟨p1, p2, p3, p4, _⟩ := right_parts _ _ _ _ _ _ hr
  have n1 := match_p1 (j + 1) (by omega) (by omega)
  have n2 := match_p2 (j + 1) (by omega) (by omega)
  have n3 := match_p3 (j + 1) (by omega) (by omega)
  clear hr
  generalize hm : matchL.getD (j + 1 - 1) 0 = m at *
  have HL : Hid (matchL.getD (j + 1 - 1) 0 = m) := hm
  clear hm
  have hff := hz
  rw [hz] at n1 n2 n3 p1 p2 p3 p4
  have HK : Hid (formZ (j + 1) = 4) := hff
  have HF : Hid (∀ w, Calls Tryd.prog 23 #[.int .i64 ((j : Int) + 1)] w fun e w' => e = .returned (.int .i64 4) ∧ w' = w) := fun w => by
    have := rform_any (j + 1) (by omega) w
    rw [hff] at this
    exact this
  clear hff hz
  have HM : Hid _ := And.intro n1 (And.intro n2 n3)
  have HP : Hid _ := And.intro p1 (And.intro p2 (And.intro p3 p4))
  clear n1 n2 n3 p1 p2 p3 p4
  have hS : SixC (w.alloc (.cells #[.int .i64 ((j : Int) + 1), .int .i64 rd, .int .i64 rs1, .int .i64 rs2, .int .u32 imm, .int .i64 csr] 24)) w.heap.size ((j : Int) + 1) rd rs1 rs2 imm csr := sixC_new w _ rfl _ _ _ _ _ _ _
  have hW : Below w.heap.size w (w.alloc (.cells #[.int .i64 ((j : Int) + 1), .int .i64 rd, .int .i64 rs1, .int .i64 rs2, .int .u32 imm, .int .i64 csr] 24)) := (Below.refl _ _).alloc (Nat.le_refl _) _
  have HS : Hid (SixC (w.alloc (.cells #[.int .i64 ((j : Int) + 1), .int .i64 rd, .int .i64 rs1, .int .i64 rs2, .int .u32 imm, .int .i64 csr] 24)) w.heap.size ((j : Int) + 1) rd rs1 rs2 imm csr) := hS
  clear hS
  have g0 : (0 : Int) ≤ (j : Int) := by omega
  have g1 : (j : Int) < 57 := by omega
  have g2 : IntKind.i64.wrap (j : Int) = j := by rw [IntKind.wrap_i64]; omega
  have g3 : IntKind.i64.wrap ((j : Int) + 1 - 1) = j := by rw [IntKind.wrap_i64]; omega
  go_enter Tryd.func9, Tryd.ntmps9
  go_wp2_with fail
  generalize (w.alloc (.cells #[.int .i64 ((j : Int) + 1), .int .i64 rd, .int .i64 rs1, .int .i64 rs2, .int .u32 imm, .int .i64 csr] 24)) = W at *
  refine (HR.out _).mono ?_
  rintro e w1 ⟨rfl, hb⟩
  have HS1 : Hid _ := HS.out.on hb
  have hW1 : Hid (Below w.heap.size w w1) := hW.trans (hb.mono hW.size)
  clear HS hb hW
  obtain ⟨c0, c1, c2, c3, c4, c5⟩ := HS1.out
  go_wp2_with fail
  refine (HF.out _).mono ?_
  rintro e w2 ⟨rfl, hw⟩
  have hw := hw.symm
  subst hw
  go_wp2_with fail
  go_region_with (first | (go_at_call 11; refine (patt_any j hj _).mono ?_; rintro e w3 ⟨rfl, hb3, hc⟩; rw [show matchL.getD j 0 = m from HL.out] at hc; have hc : w3.cell? ⟨w1.heap.size, j * 2 + 1, none⟩ = some (.int .u32 m) := hc; have hW3 : Hid (Below w.heap.size w w3) := Below.trans hW1.out.drew (hb3.mono hW1.out.size); have HS3 : Hid _ := SixC.on (SixC.on HS1.out ((Below.refl w1.heap.size w1).drew)) hb3; have k0 := HS3.out.1; clear hb3))
  all_goals (try clear e)
  all_goals (clear k0 hc; revert HS3; revert hW3; revert w3)
  refine ?key
  rotate_left
  exact ?key
  intro w3 _ hW3 HS3
  obtain ⟨n1, n2, n3⟩ := HM.out
  obtain ⟨p1, p2, p3, p4⟩ := HP.out
  clear HM HP HR HF HS1 hW1 c0 c1 c2 c3 c4 c5 g2 g3 hn
  have HX : Hid (rd = 0 ∧ True ∧ True ∧ csr = 0) := ⟨partB_n p1, trivial, trivial, partB_n p4⟩
  obtain ⟨m3, m7, hm, hm3, hm7⟩ := m_split2 m m0 (n2 (by simp))
  have HM : Hid (m = m3 * 4096 + m7) := hm
  have H3 : Hid (0 ≤ m3 ∧ m3 < 8) := hm3
  have H7 : Hid (0 ≤ m7 ∧ m7 < 128) := hm7
  clear hm hm3 hm7
  clear n1 n2 n3 p1 p2 p3 p4
  obtain ⟨c0, c1, c2, c3, c4, c5⟩ := HS3.out
  have hz : m / 32768 % 32 = 0 := by
    have r_3 := H3.out
    have r_7 := H7.out
    have l0 : 0 ≤ m7 * 1 + m3 * 4096 := by omega
    have l1 : m7 * 1 + m3 * 4096 < 32768 := by omega
    have q0 := HM.out
    exact free_of m 32768 32 (0) (m7 * 1 + m3 * 4096) (by decide) (by omega) l0 l1
  have HZ : Hid (m / 32768 % 32 = 0) := hz
  clear hz
  go_wp2_with fail
  refine (eput_any 19 15 32 32768 rs1 m _ m0 m1 b0 (Int.lt_trans b1 (by decide)) (by decide) (by decide) (by decide) rfl rfl HZ.out).mono ?_
  clear HZ
  rintro e w4 ⟨rfl, hq, y4, z4⟩
  generalize hv : m + rs1 % 32 * 32768 = x1 at y4 z4 ⊢
  have YZ4 : Hid (0 ≤ x1 ∧ x1 < 4294967296) := ⟨y4, z4⟩
  clear y4 z4
  have HV1 : Hid (m + rs1 * 32768 = x1) := by show _ = _; rw [← hv, Int.emod_eq_of_lt b0 b1]
  clear hv
  have hW4 : Hid (Below w.heap.size w w4) := Below.trans hW3.out ((hq.below _).mono hW3.out.size)
  have HS4 : Hid (SixC w4 w.heap.size ((j : Int) + 1) rd rs1 rs2 imm csr) := SixC.on HS3.out (hq.below _)
  clear hq c0 c1 c2 c3 c4 c5 HS3 hW3
  obtain ⟨c0, c1, c2, c3, c4, c5⟩ := HS4.out
  have hz : x1 / 1048576 % 32 = 0 := by
    have r_3 := H3.out
    have r_7 := H7.out
    have l0 : 0 ≤ m7 * 1 + m3 * 4096 + rs1 * 32768 := by omega
    have l1 : m7 * 1 + m3 * 4096 + rs1 * 32768 < 1048576 := by omega
    have q0 := HM.out
    have q1 := HV1.out
    exact free_of x1 1048576 32 (0) (m7 * 1 + m3 * 4096 + rs1 * 32768) (by decide) (by omega) l0 l1
  have HZ : Hid (x1 / 1048576 % 32 = 0) := hz
  clear hz
  go_wp2_with fail
  refine (eput_any 24 20 32 1048576 rs2 x1 _ YZ4.out.1 YZ4.out.2 d0 (Int.lt_trans d1 (by decide)) (by decide) (by decide) (by decide) rfl rfl HZ.out).mono ?_
  clear HZ
  rintro e w5 ⟨rfl, hq, y5, z5⟩
  generalize hv : x1 + rs2 % 32 * 1048576 = x2 at y5 z5 ⊢
  have YZ5 : Hid (0 ≤ x2 ∧ x2 < 4294967296) := ⟨y5, z5⟩
  clear y5 z5
  have HV2 : Hid (x1 + rs2 * 1048576 = x2) := by show _ = _; rw [← hv, Int.emod_eq_of_lt d0 d1]
  clear hv
  have hW5 : Hid (Below w.heap.size w w5) := Below.trans hW4.out ((hq.below _).mono hW4.out.size)
  have HS5 : Hid (SixC w5 w.heap.size ((j : Int) + 1) rd rs1 rs2 imm csr) := SixC.on HS4.out (hq.below _)
  clear hq c0 c1 c2 c3 c4 c5 HS4 hW4
  obtain ⟨c0, c1, c2, c3, c4, c5⟩ := HS5.out
  go_wp2_with fail
  refine (epart_any 12 12 2 4096 imm _ i0 i1 (by omega) (by omega) (by omega) rfl rfl).mono ?_
  rintro e w6 ⟨rfl, hq⟩
  generalize hv : imm / 4096 % 2 = v3
  have HV3 : Hid (imm / 4096 % 2 = v3) := hv
  have hv3 : Hid (0 ≤ v3 ∧ v3 < 2) := by show _ ∧ _; rw [← hv]; exact ⟨Int.emod_nonneg _ (by decide), Int.emod_lt_of_pos _ (by decide)⟩
  clear hv
  have hW6 : Hid (Below w.heap.size w w6) := Below.trans hW5.out ((hq.below _).mono hW5.out.size)
  have HS6 : Hid (SixC w6 w.heap.size ((j : Int) + 1) rd rs1 rs2 imm csr) := SixC.on HS5.out (hq.below _)
  clear hq c0 c1 c2 c3 c4 c5 HS5 hW5
  obtain ⟨c0, c1, c2, c3, c4, c5⟩ := HS6.out
  have hz : x2 / 2147483648 % 2 = 0 := by
    have r_3 := H3.out
    have r_7 := H7.out
    have l0 : 0 ≤ m7 * 1 + m3 * 4096 + rs1 * 32768 + rs2 * 1048576 := by omega
    have l1 : m7 * 1 + m3 * 4096 + rs1 * 32768 + rs2 * 1048576 < 2147483648 := by omega
    have q0 := HM.out
    have q1 := HV1.out
    have q2 := HV2.out
    exact free_of x2 2147483648 2 (0) (m7 * 1 + m3 * 4096 + rs1 * 32768 + rs2 * 1048576) (by decide) (by omega) l0 l1
  have HZ : Hid (x2 / 2147483648 % 2 = 0) := hz
  clear hz
  go_wp2_with fail
  refine (eput_any 31 31 2 2147483648 v3 x2 _ YZ5.out.1 YZ5.out.2 hv3.out.1 (Int.lt_trans hv3.out.2 (by decide)) (by decide) (by decide) (by decide) rfl rfl HZ.out).mono ?_
  clear HZ
  rintro e w7 ⟨rfl, hq, y7, z7⟩
  generalize hv : x2 + v3 % 2 * 2147483648 = x4 at y7 z7 ⊢
  have YZ7 : Hid (0 ≤ x4 ∧ x4 < 4294967296) := ⟨y7, z7⟩
  clear y7 z7
  have HV4 : Hid (x2 + v3 * 2147483648 = x4) := by show _ = _; rw [← hv, Int.emod_eq_of_lt hv3.out.1 hv3.out.2]
  clear hv
  have hW7 : Hid (Below w.heap.size w w7) := Below.trans hW6.out ((hq.below _).mono hW6.out.size)
  have HS7 : Hid (SixC w7 w.heap.size ((j : Int) + 1) rd rs1 rs2 imm csr) := SixC.on HS6.out (hq.below _)
  clear hq c0 c1 c2 c3 c4 c5 HS6 hW6
  obtain ⟨c0, c1, c2, c3, c4, c5⟩ := HS7.out
  go_wp2_with fail
  refine (epart_any 11 11 2 2048 imm _ i0 i1 (by omega) (by omega) (by omega) rfl rfl).mono ?_
  rintro e w8 ⟨rfl, hq⟩
  generalize hv : imm / 2048 % 2 = v5
  have HV5 : Hid (imm / 2048 % 2 = v5) := hv
  have hv5 : Hid (0 ≤ v5 ∧ v5 < 2) := by show _ ∧ _; rw [← hv]; exact ⟨Int.emod_nonneg _ (by decide), Int.emod_lt_of_pos _ (by decide)⟩
  clear hv
  have hW8 : Hid (Below w.heap.size w w8) := Below.trans hW7.out ((hq.below _).mono hW7.out.size)
  have HS8 : Hid (SixC w8 w.heap.size ((j : Int) + 1) rd rs1 rs2 imm csr) := SixC.on HS7.out (hq.below _)
  clear hq c0 c1 c2 c3 c4 c5 HS7 hW7
  obtain ⟨c0, c1, c2, c3, c4, c5⟩ := HS8.out
  have hz : x4 / 128 % 2 = 0 := by
    have r_3 := H3.out
    have r_7 := H7.out
    have r3 := hv3.out
    have l0 : 0 ≤ m7 * 1 := by omega
    have l1 : m7 * 1 < 128 := by omega
    have q0 := HM.out
    have q1 := HV1.out
    have q2 := HV2.out
    have q3 := HV4.out
    exact free_of x4 128 2 (m3 * 16 + rs1 * 128 + rs2 * 4096 + v3 * 8388608) (m7 * 1) (by decide) (by omega) l0 l1
  have HZ : Hid (x4 / 128 % 2 = 0) := hz
  clear hz
  go_wp2_with fail
  refine (eput_any 7 7 2 128 v5 x4 _ YZ7.out.1 YZ7.out.2 hv5.out.1 (Int.lt_trans hv5.out.2 (by decide)) (by decide) (by decide) (by decide) rfl rfl HZ.out).mono ?_
  clear HZ
  rintro e w9 ⟨rfl, hq, y9, z9⟩
  generalize hv : x4 + v5 % 2 * 128 = x6 at y9 z9 ⊢
  have YZ9 : Hid (0 ≤ x6 ∧ x6 < 4294967296) := ⟨y9, z9⟩
  clear y9 z9
  have HV6 : Hid (x4 + v5 * 128 = x6) := by show _ = _; rw [← hv, Int.emod_eq_of_lt hv5.out.1 hv5.out.2]
  clear hv
  have hW9 : Hid (Below w.heap.size w w9) := Below.trans hW8.out ((hq.below _).mono hW8.out.size)
  have HS9 : Hid (SixC w9 w.heap.size ((j : Int) + 1) rd rs1 rs2 imm csr) := SixC.on HS8.out (hq.below _)
  clear hq c0 c1 c2 c3 c4 c5 HS8 hW8
  obtain ⟨c0, c1, c2, c3, c4, c5⟩ := HS9.out
  go_wp2_with fail
  refine (epart_any 10 5 64 32 imm _ i0 i1 (by omega) (by omega) (by omega) rfl rfl).mono ?_
  rintro e w10 ⟨rfl, hq⟩
  generalize hv : imm / 32 % 64 = v7
  have HV7 : Hid (imm / 32 % 64 = v7) := hv
  have hv7 : Hid (0 ≤ v7 ∧ v7 < 64) := by show _ ∧ _; rw [← hv]; exact ⟨Int.emod_nonneg _ (by decide), Int.emod_lt_of_pos _ (by decide)⟩
  clear hv
  have hW10 : Hid (Below w.heap.size w w10) := Below.trans hW9.out ((hq.below _).mono hW9.out.size)
  have HS10 : Hid (SixC w10 w.heap.size ((j : Int) + 1) rd rs1 rs2 imm csr) := SixC.on HS9.out (hq.below _)
  clear hq c0 c1 c2 c3 c4 c5 HS9 hW9
  obtain ⟨c0, c1, c2, c3, c4, c5⟩ := HS10.out
  have hz : x6 / 33554432 % 64 = 0 := by
    have r_3 := H3.out
    have r_7 := H7.out
    have r3 := hv3.out
    have r5 := hv5.out
    have l0 : 0 ≤ m7 * 1 + m3 * 4096 + rs1 * 32768 + rs2 * 1048576 + v5 * 128 := by omega
    have l1 : m7 * 1 + m3 * 4096 + rs1 * 32768 + rs2 * 1048576 + v5 * 128 < 33554432 := by omega
    have q0 := HM.out
    have q1 := HV1.out
    have q2 := HV2.out
    have q3 := HV4.out
    have q4 := HV6.out
    exact free_of x6 33554432 64 (v3 * 1) (m7 * 1 + m3 * 4096 + rs1 * 32768 + rs2 * 1048576 + v5 * 128) (by decide) (by omega) l0 l1
  have HZ : Hid (x6 / 33554432 % 64 = 0) := hz
  clear hz
  go_wp2_with fail
  refine (eput_any 30 25 64 33554432 v7 x6 _ YZ9.out.1 YZ9.out.2 hv7.out.1 (Int.lt_trans hv7.out.2 (by decide)) (by decide) (by decide) (by decide) rfl rfl HZ.out).mono ?_
  clear HZ
  rintro e w11 ⟨rfl, hq, y11, z11⟩
  generalize hv : x6 + v7 % 64 * 33554432 = x8 at y11 z11 ⊢
  have YZ11 : Hid (0 ≤ x8 ∧ x8 < 4294967296) := ⟨y11, z11⟩
  clear y11 z11
  have HV8 : Hid (x6 + v7 * 33554432 = x8) := by show _ = _; rw [← hv, Int.emod_eq_of_lt hv7.out.1 hv7.out.2]
  clear hv
  have hW11 : Hid (Below w.heap.size w w11) := Below.trans hW10.out ((hq.below _).mono hW10.out.size)
  have HS11 : Hid (SixC w11 w.heap.size ((j : Int) + 1) rd rs1 rs2 imm csr) := SixC.on HS10.out (hq.below _)
  clear hq c0 c1 c2 c3 c4 c5 HS10 hW10
  obtain ⟨c0, c1, c2, c3, c4, c5⟩ := HS11.out
  go_wp2_with fail
  refine (epart_any 4 1 16 2 imm _ i0 i1 (by omega) (by omega) (by omega) rfl rfl).mono ?_
  rintro e w12 ⟨rfl, hq⟩
  generalize hv : imm / 2 % 16 = v9
  have HV9 : Hid (imm / 2 % 16 = v9) := hv
  have hv9 : Hid (0 ≤ v9 ∧ v9 < 16) := by show _ ∧ _; rw [← hv]; exact ⟨Int.emod_nonneg _ (by decide), Int.emod_lt_of_pos _ (by decide)⟩
  clear hv
  have hW12 : Hid (Below w.heap.size w w12) := Below.trans hW11.out ((hq.below _).mono hW11.out.size)
  have HS12 : Hid (SixC w12 w.heap.size ((j : Int) + 1) rd rs1 rs2 imm csr) := SixC.on HS11.out (hq.below _)
  clear hq c0 c1 c2 c3 c4 c5 HS11 hW11
  obtain ⟨c0, c1, c2, c3, c4, c5⟩ := HS12.out
  have hz : x8 / 256 % 16 = 0 := b_last m m3 m7 rs1 rs2 v3 v5 v7 x1 x2 x4 x6 x8 HM.out HV1.out HV2.out HV4.out HV6.out HV8.out H7.out.1 H7.out.2 hv5.out.1 hv5.out.2
  have HZ : Hid (x8 / 256 % 16 = 0) := hz
  clear hz
  go_wp2_with fail
  refine (eput_any 11 8 16 256 v9 x8 _ YZ11.out.1 YZ11.out.2 hv9.out.1 (Int.lt_trans hv9.out.2 (by decide)) (by decide) (by decide) (by decide) rfl rfl HZ.out).mono ?_
  clear HZ
  rintro e w13 ⟨rfl, hq, y13, z13⟩
  generalize hv : x8 + v9 % 16 * 256 = x10 at y13 z13 ⊢
  have YZ13 : Hid (0 ≤ x10 ∧ x10 < 4294967296) := ⟨y13, z13⟩
  clear y13 z13
  have HV10 : Hid (x8 + v9 * 256 = x10) := by show _ = _; rw [← hv, Int.emod_eq_of_lt hv9.out.1 hv9.out.2]
  clear hv
  have hW13 : Hid (Below w.heap.size w w13) := Below.trans hW12.out ((hq.below _).mono hW12.out.size)
  have HS13 : Hid (SixC w13 w.heap.size ((j : Int) + 1) rd rs1 rs2 imm csr) := SixC.on HS12.out (hq.below _)
  clear hq c0 c1 c2 c3 c4 c5 HS12 hW12
  obtain ⟨c0, c1, c2, c3, c4, c5⟩ := HS13.out
  go_wp2
  go_ret2
  refine ⟨ret_pairb ?_, hW13.out⟩
  unfold encOf headOf
  rw [HL.out, HK.out, show immPut 4 imm = imm / 4096 % 2 * 2147483648 + imm / 32 % 64 * 33554432 + imm / 2 % 16 * 256 + imm / 2048 % 2 * 128 from rfl, HV3.out, HV5.out, HV7.out, HV9.out]
  have q0 := HM.out
  have q1 := HV1.out
  have q2 := HV2.out
  have q3 := HV4.out
  have q4 := HV6.out
  have q5 := HV8.out
  have q6 := HV10.out
  have q7 := HX.out
  omega

end Go.Proofs.YtlceglloikamnaaDoor
