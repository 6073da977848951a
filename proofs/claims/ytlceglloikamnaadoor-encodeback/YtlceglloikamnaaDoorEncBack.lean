/- Layer 4: walk of EncodeBack. -/
import Derived.Test.YtlceglloikamnaaDoorEncAny
import Derived.Test.YtlceglloikamnaaDoorDecPut
import Derived.Deep.RegionHeld3
namespace Go.Proofs.YtlceglloikamnaaDoor
open Go.RowKit
set_option linter.unusedVariables false

theorem kind_okB (x : Int) : okB (kindOf x : Int) (fldRd x (formZ (kindOf x))) (fldRs1 x (formZ (kindOf x))) (fldRs2 x (formZ (kindOf x))) (immOf x (formZ (kindOf x))) (fldCsr x (formZ (kindOf x))) = decide (kindOf x ≠ 0) := by
  have hl := kind_lt x
  unfold okB
  rw [show ((kindOf x : Int)).toNat = kindOf x from by omega, fields_right x _ (formZ_lt _ hl), Bool.and_true]
  by_cases h : kindOf x = 0
  · rw [h]; decide
  · rw [decide_eq_true (by omega : 1 ≤ (kindOf x : Int) ∧ (kindOf x : Int) < 58), decide_eq_true h]

/-- What the second half of the law meets, whatever the word. -/
theorem back_parts (x : Int) (h0 : 0 ≤ x) (h1 : x < 4294967296) : ∃ op rd rs1 rs2 imm csr : Int, insV x = .agg #[.int .i64 op, .int .i64 rd, .int .i64 rs1, .int .i64 rs2, .int .u32 imm, .int .i64 csr] ∧ (0 ≤ imm ∧ imm < 4294967296) ∧ ((op = 0 ∧ okB op rd rs1 rs2 imm csr = false) ∨ (1 ≤ op ∧ okB op rd rs1 rs2 imm csr = true ∧ wordOf op rd rs1 rs2 imm csr = x)) := by
  refine ⟨_, _, _, _, _, _, rfl, immOf_bd x _, ?_⟩
  have hk := kind_okB x
  by_cases h : kindOf x = 0
  · refine .inl ⟨by omega, ?_⟩
    rw [hk]; simp [h]
  · refine .inr ⟨by omega, ?_, ?_⟩
    · rw [hk]; simp [h]
    · unfold wordOf
      rw [show ((kindOf x : Int)).toNat = kindOf x from by omega]
      exact enc_of_read x h0 h1 h

namespace encodeBack
set_option maxHeartbeats 4000000 in
theorem walk (op rd rs1 rs2 imm csr x : Int) (w : World) (w0 : (Lit.int .i64 op).wf = true) (w1 : (Lit.int .i64 rd).wf = true) (w2 : (Lit.int .i64 rs1).wf = true) (w3 : (Lit.int .i64 rs2).wf = true) (w4 : (Lit.int .u32 imm).wf = true) (w5 : (Lit.int .i64 csr).wf = true) (w6 : (Lit.int .u32 x).wf = true) (tf : FormTab w) (tn : MatchTab w) (tm : EncTab w) :
    Calls Tryd.prog 4 #[.agg #[.int .i64 op, .int .i64 rd, .int .i64 rs1, .int .i64 rs2, .int .u32 imm, .int .i64 csr], .int .u32 x] w fun e w' => e = .returned (.bool true) ∧ Below w.heap.size w w' := by
  have hi := bounds_u32 w4
  have hx := bounds_u32 w6
  obtain ⟨i0, i1⟩ : 0 ≤ imm ∧ imm < 4294967296 := by omega
  obtain ⟨x0, x1⟩ : 0 ≤ x ∧ x < 4294967296 := by omega
  clear hi hx w0 w1 w2 w3 w4 w5 w6
  have HF : Hid (FormTab w) := tf
  have HN : Hid (MatchTab w) := tn
  have HM : Hid (EncTab w) := tm
  have hS : SixC (w.alloc (.cells #[.int .i64 op, .int .i64 rd, .int .i64 rs1, .int .i64 rs2, .int .u32 imm, .int .i64 csr] 24)) w.heap.size op rd rs1 rs2 imm csr := sixC_new w _ rfl _ _ _ _ _ _ _
  have HS : Hid (SixC (w.alloc (.cells #[.int .i64 op, .int .i64 rd, .int .i64 rs1, .int .i64 rs2, .int .u32 imm, .int .i64 csr] 24)) w.heap.size op rd rs1 rs2 imm csr) := hS
  have hW : Below w.heap.size w (w.alloc (.cells #[.int .i64 op, .int .i64 rd, .int .i64 rs1, .int .i64 rs2, .int .u32 imm, .int .i64 csr] 24)) := (Below.refl _ _).alloc (Nat.le_refl _) _
  clear tf tm tn hS
  obtain ⟨qop, qrd, qrs1, qrs2, qimm, qcsr, hI, ⟨q0, q1⟩, hQ⟩ := back_parts x x0 x1
  have HI : Hid (insV x = .agg #[.int .i64 qop, .int .i64 qrd, .int .i64 qrs1, .int .i64 qrs2, .int .u32 qimm, .int .i64 qcsr]) := hI
  have HQ : Hid ((qop = 0 ∧ okB qop qrd qrs1 qrs2 qimm qcsr = false) ∨ (1 ≤ qop ∧ okB qop qrd qrs1 qrs2 qimm qcsr = true ∧ wordOf qop qrd qrs1 qrs2 qimm qcsr = x)) := hQ
  clear hI hQ
  cases hok : okB op rd rs1 rs2 imm csr
  · have HO : Hid (okB op rd rs1 rs2 imm csr = false) := hok
    clear hok
    go_enter Tryd.func4, Tryd.ntmps4
    go_wp2_with fail
    generalize w.alloc (.cells #[.int .i64 op, .int .i64 rd, .int .i64 rs1, .int .i64 rs2, .int .u32 imm, .int .i64 csr] 24) = W at *
    refine (enc_f op rd rs1 rs2 imm csr _ i0 i1 HO.out (FormTab.below HF.out hW) (EncTab.below HM.out hW)).mono ?_
    rintro e w1 ⟨rfl, hb⟩
    have hW1 : Hid (Below w.heap.size w w1) := hW.trans (hb.mono hW.size)
    have HS1 : Hid (SixC w1 w.heap.size op rd rs1 rs2 imm csr) := SixC.on HS.out hb
    clear HS hb hW
    obtain ⟨c0, c1, c2, c3, c4, c5⟩ := HS1.out
    go_wp2_with fail
    go_region
    have HWv : Hid (Below w.heap.size w w1.drew) := hW1.out.drew
    go_wp2_with fail
    refine (decode_any x _ x0 x1 (FormTab.below HF.out HWv.out) (MatchTab.below HN.out HWv.out)).mono ?_
    rintro e w4 ⟨rfl, hb4⟩
    rw [HI.out]
    have hW4 : Below w.heap.size w w4 := Below.trans HWv.out (hb4.mono HWv.out.size)
    have hW5 : Below w.heap.size w (w4.alloc (.cells #[.int .i64 qop, .int .i64 qrd, .int .i64 qrs1, .int .i64 qrs2, .int .u32 qimm, .int .i64 qcsr] 24)) := hW4.alloc hW4.size _
    have hS5 : SixC (w4.alloc (.cells #[.int .i64 qop, .int .i64 qrd, .int .i64 qrs1, .int .i64 qrs2, .int .u32 qimm, .int .i64 qcsr] 24)) w4.heap.size qop qrd qrs1 qrs2 qimm qcsr := sixC_new w4 _ rfl _ _ _ _ _ _ _
    have HS5 : Hid (SixC (w4.alloc (.cells #[.int .i64 qop, .int .i64 qrd, .int .i64 qrs1, .int .i64 qrs2, .int .u32 qimm, .int .i64 qcsr] 24)) w4.heap.size qop qrd qrs1 qrs2 qimm qcsr) := hS5
    have HW5 : Hid (Below w.heap.size w (w4.alloc (.cells #[.int .i64 qop, .int .i64 qrd, .int .i64 qrs1, .int .i64 qrs2, .int .u32 qimm, .int .i64 qcsr] 24))) := hW5
    clear hb4 hW4 hW5 hS5 c0 c1 c2 c3 c4 c5
    go_wp2_with fail
    generalize w4.alloc (.cells #[.int .i64 qop, .int .i64 qrd, .int .i64 qrs1, .int .i64 qrs2, .int .u32 qimm, .int .i64 qcsr] 24) = W5 at *
    rcases HQ.out with ⟨rfl, hqok⟩ | ⟨hq1, hqok, hqw⟩
    · refine (enc_f 0 qrd qrs1 qrs2 qimm qcsr _ q0 q1 hqok (FormTab.below HF.out HW5.out) (EncTab.below HM.out HW5.out)).mono ?_
      rintro e w6 ⟨rfl, hb6⟩
      have HS6 := SixC.on HS5.out hb6
      have HW6 : Hid (Below w.heap.size w w6) := Below.trans HW5.out (hb6.mono HW5.out.size)
      have k0 := HS6.1
      clear HS6 hb6 hqok HQ HS5 HI
      go_wp2_with fail
      refine (eawake_any _ (FormTab.below HF.out HW6.out) (EncTab.below HM.out HW6.out)).mono ?_
      rintro e w7 ⟨rfl, hb7⟩
      go_wp2
      go_ret
      exact ⟨rfl, Below.trans HW6.out (hb7.mono HW6.out.size)⟩
    · have hne : (qop == 0) = false := by simp; omega
      refine (enc_t qop qrd qrs1 qrs2 qimm qcsr _ q0 q1 hqok (FormTab.below HF.out HW5.out) (EncTab.below HM.out HW5.out)).mono ?_
      rw [hqw]
      rintro e w6 ⟨rfl, hb6⟩
      have HS6 := SixC.on HS5.out hb6
      have HW6 : Hid (Below w.heap.size w w6) := Below.trans HW5.out (hb6.mono HW5.out.size)
      have k0 := HS6.1
      clear HS6 hb6 hqok HQ HS5 hqw HI
      go_wp2_with fail
      refine (eawake_any _ (FormTab.below HF.out HW6.out) (EncTab.below HM.out HW6.out)).mono ?_
      rintro e w7 ⟨rfl, hb7⟩
      go_wp2
      go_ret
      exact ⟨rfl, Below.trans HW6.out (hb7.mono HW6.out.size)⟩
  · have HO : Hid (okB op rd rs1 rs2 imm csr = true) := hok
    clear hok
    have HIB : Hid (insV (wordOf op rd rs1 rs2 imm csr) = .agg #[.int .i64 op, .int .i64 rd, .int .i64 rs1, .int .i64 rs2, .int .u32 imm, .int .i64 csr]) := ins_back i0 i1 HO.out
    have HWB : Hid (0 ≤ wordOf op rd rs1 rs2 imm csr ∧ wordOf op rd rs1 rs2 imm csr < 4294967296) := word_bd i0 i1 HO.out
    go_enter Tryd.func4, Tryd.ntmps4
    go_wp2_with fail
    generalize w.alloc (.cells #[.int .i64 op, .int .i64 rd, .int .i64 rs1, .int .i64 rs2, .int .u32 imm, .int .i64 csr] 24) = W at *
    refine (enc_t op rd rs1 rs2 imm csr _ i0 i1 HO.out (FormTab.below HF.out hW) (EncTab.below HM.out hW)).mono ?_
    generalize wordOf op rd rs1 rs2 imm csr = wd at *
    rintro e w1 ⟨rfl, hb⟩
    have hW1 : Hid (Below w.heap.size w w1) := hW.trans (hb.mono hW.size)
    have HS1 : Hid (SixC w1 w.heap.size op rd rs1 rs2 imm csr) := SixC.on HS.out hb
    clear HS hb hW
    obtain ⟨c0, c1, c2, c3, c4, c5⟩ := HS1.out
    go_wp2_with fail
    go_region_held3 (fun w' => w'.cell? ⟨w.heap.size, 0, none⟩ = some (.int .i64 op) ∧ w'.cell? ⟨w.heap.size, 1, none⟩ = some (.int .i64 rd) ∧ w'.cell? ⟨w.heap.size, 2, none⟩ = some (.int .i64 rs1) ∧ w'.cell? ⟨w.heap.size, 3, none⟩ = some (.int .i64 rs2) ∧ w'.cell? ⟨w.heap.size, 4, none⟩ = some (.int .u32 imm) ∧ w'.cell? ⟨w.heap.size, 5, none⟩ = some (.int .i64 csr)) (first | (refine ⟨?_, ?_, ?_, ?_, ?_, ?_⟩ <;> assumption) | simp)
      (first | (go_at_call 12; refine (decode_any wd _ HWB.out.1 HWB.out.2 (FormTab.below HF.out hW1.out.drew) (MatchTab.below HN.out hW1.out.drew)).mono ?_; rintro e w3 ⟨rfl, hb3⟩; rw [HIB.out]; have HB3 : Hid (Below w.heap.size w w3) := Below.trans hW1.out.drew (hb3.mono hW1.out.drew.size); obtain ⟨p0, p1, p2, p3, p4, p5⟩ := SixC.on (SixC.on HS1.out ((Below.refl w1.heap.size w1).drew)) hb3; clear hb3))
    have HWv : Hid (Below w.heap.size w w3) := HB3.out
    go_wp2_with fail
    refine (decode_any x _ x0 x1 (FormTab.below HF.out HWv.out) (MatchTab.below HN.out HWv.out)).mono ?_
    rintro e w4 ⟨rfl, hb4⟩
    rw [HI.out]
    have hW4 : Below w.heap.size w w4 := Below.trans HWv.out (hb4.mono HWv.out.size)
    have hW5 : Below w.heap.size w (w4.alloc (.cells #[.int .i64 qop, .int .i64 qrd, .int .i64 qrs1, .int .i64 qrs2, .int .u32 qimm, .int .i64 qcsr] 24)) := hW4.alloc hW4.size _
    have hS5 : SixC (w4.alloc (.cells #[.int .i64 qop, .int .i64 qrd, .int .i64 qrs1, .int .i64 qrs2, .int .u32 qimm, .int .i64 qcsr] 24)) w4.heap.size qop qrd qrs1 qrs2 qimm qcsr := sixC_new w4 _ rfl _ _ _ _ _ _ _
    have HS5 : Hid (SixC (w4.alloc (.cells #[.int .i64 qop, .int .i64 qrd, .int .i64 qrs1, .int .i64 qrs2, .int .u32 qimm, .int .i64 qcsr] 24)) w4.heap.size qop qrd qrs1 qrs2 qimm qcsr) := hS5
    have HW5 : Hid (Below w.heap.size w (w4.alloc (.cells #[.int .i64 qop, .int .i64 qrd, .int .i64 qrs1, .int .i64 qrs2, .int .u32 qimm, .int .i64 qcsr] 24))) := hW5
    clear hb4 hW4 hW5 hS5 c0 c1 c2 c3 c4 c5 p0 p1 p2 p3 p4 p5
    go_wp2_with fail
    generalize w4.alloc (.cells #[.int .i64 qop, .int .i64 qrd, .int .i64 qrs1, .int .i64 qrs2, .int .u32 qimm, .int .i64 qcsr] 24) = W5 at *
    rcases HQ.out with ⟨rfl, hqok⟩ | ⟨hq1, hqok, hqw⟩
    · refine (enc_f 0 qrd qrs1 qrs2 qimm qcsr _ q0 q1 hqok (FormTab.below HF.out HW5.out) (EncTab.below HM.out HW5.out)).mono ?_
      rintro e w6 ⟨rfl, hb6⟩
      have HS6 := SixC.on HS5.out hb6
      have HW6 : Hid (Below w.heap.size w w6) := Below.trans HW5.out (hb6.mono HW5.out.size)
      have k0 := HS6.1
      clear HS6 hb6 hqok HQ HS5 HI
      go_wp2_with fail
      refine (eawake_any _ (FormTab.below HF.out HW6.out) (EncTab.below HM.out HW6.out)).mono ?_
      rintro e w7 ⟨rfl, hb7⟩
      go_wp2
      go_ret
      exact ⟨rfl, Below.trans HW6.out (hb7.mono HW6.out.size)⟩
    · have hne : (qop == 0) = false := by simp; omega
      refine (enc_t qop qrd qrs1 qrs2 qimm qcsr _ q0 q1 hqok (FormTab.below HF.out HW5.out) (EncTab.below HM.out HW5.out)).mono ?_
      rw [hqw]
      rintro e w6 ⟨rfl, hb6⟩
      have HS6 := SixC.on HS5.out hb6
      have HW6 : Hid (Below w.heap.size w w6) := Below.trans HW5.out (hb6.mono HW5.out.size)
      have k0 := HS6.1
      clear HS6 hb6 hqok HQ HS5 hqw HI
      go_wp2_with fail
      refine (eawake_any _ (FormTab.below HF.out HW6.out) (EncTab.below HM.out HW6.out)).mono ?_
      rintro e w7 ⟨rfl, hb7⟩
      go_wp2
      go_ret
      exact ⟨rfl, Below.trans HW6.out (hb7.mono HW6.out.size)⟩
end encodeBack
end Go.Proofs.YtlceglloikamnaaDoor
