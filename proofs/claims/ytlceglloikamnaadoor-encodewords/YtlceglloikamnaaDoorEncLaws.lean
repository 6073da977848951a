/- Layer 4: walks of EncodeWords and EncodeBack. -/
import Derived.Test.YtlceglloikamnaaDoorEncAny
import Derived.Test.YtlceglloikamnaaDoorDecPut
import Derived.Deep.RegionHeld3
import Derived.Deep.RegionWith
namespace Go.Proofs.YtlceglloikamnaaDoor
open Go.RowKit
set_option linter.unusedVariables false

namespace encodeWords
set_option maxHeartbeats 2000000 in
theorem walk_bad (op rd rs1 rs2 imm csr : Int) (w : World) (i0 : 0 ≤ imm) (i1 : imm < 4294967296) (h : ¬ (1 ≤ op ∧ op < 58)) (tf : FormTab w) (tm : EncTab w) :
    Calls Tryd.prog 3 #[.agg #[.int .i64 op, .int .i64 rd, .int .i64 rs1, .int .i64 rs2, .int .u32 imm, .int .i64 csr]] w fun e w' => e = .returned (.bool true) ∧ Below w.heap.size w w' := by
  have HF : Hid (FormTab w) := tf
  have HM : Hid (EncTab w) := tm
  have H : Hid (¬ (1 ≤ op ∧ op < 58)) := h
  have hS : SixC (w.alloc (.cells #[.int .i64 op, .int .i64 rd, .int .i64 rs1, .int .i64 rs2, .int .u32 imm, .int .i64 csr] 24)) w.heap.size op rd rs1 rs2 imm csr := sixC_new w _ rfl _ _ _ _ _ _ _
  have HS : Hid (SixC (w.alloc (.cells #[.int .i64 op, .int .i64 rd, .int .i64 rs1, .int .i64 rs2, .int .u32 imm, .int .i64 csr] 24)) w.heap.size op rd rs1 rs2 imm csr) := hS
  have hW : Below w.heap.size w (w.alloc (.cells #[.int .i64 op, .int .i64 rd, .int .i64 rs1, .int .i64 rs2, .int .u32 imm, .int .i64 csr] 24)) := (Below.refl _ _).alloc (Nat.le_refl _) _
  clear tf tm hS h
  have key : op ≤ 0 ∨ (¬ op ≤ 0 ∧ 58 ≤ op) := by have := H.out; omega
  go_enter Tryd.func3, Tryd.ntmps3
  go_wp2_with fail
  generalize w.alloc (.cells #[.int .i64 op, .int .i64 rd, .int .i64 rs1, .int .i64 rs2, .int .u32 imm, .int .i64 csr] 24) = W at *
  refine (enc_bad op rd rs1 rs2 imm csr _ H.out).mono ?_
  rintro e w1 ⟨rfl, hb⟩
  have HS1 : Hid (SixC w1 w.heap.size op rd rs1 rs2 imm csr) := SixC.on HS.out hb
  have hW1 : Hid (Below w.heap.size w w1) := hW.trans (hb.mono hW.size)
  clear HS hb hW
  obtain ⟨c0, c1, c2, c3, c4, c5⟩ := HS1.out
  go_wp2_with fail
  refine (ematch_no op _ H.out).mono ?_
  rintro e w2 ⟨rfl, hw⟩
  have hw := hw.symm
  subst hw
  go_wp2_with fail
  refine (renc_bad op rd rs1 rs2 imm csr _ H.out).mono ?_
  rintro e w3 ⟨rfl, hb⟩
  have HS3 : Hid (SixC w3 w.heap.size op rd rs1 rs2 imm csr) := SixC.on HS1.out hb
  have hW3 : Hid (Below w.heap.size w w3) := Below.trans hW1.out (hb.mono hW1.out.size)
  clear hb c0 c1 c2 c3 c4 c5
  obtain ⟨c0, c1, c2, c3, c4, c5⟩ := HS3.out
  rcases key with h1 | ⟨h1, h2⟩
  · go_wp2_with fail
    refine (eawake_any _ (FormTab.below HF.out hW3.out) (EncTab.below HM.out hW3.out)).mono ?_
    rintro e w4 ⟨rfl, hb⟩
    go_wp2
    go_ret
    exact ⟨rfl, Below.trans hW3.out (hb.mono hW3.out.size)⟩
  · go_wp2_with fail
    refine (eawake_any _ (FormTab.below HF.out hW3.out) (EncTab.below HM.out hW3.out)).mono ?_
    rintro e w4 ⟨rfl, hb⟩
    go_wp2
    go_ret
    exact ⟨rfl, Below.trans hW3.out (hb.mono hW3.out.size)⟩

set_option maxHeartbeats 4000000 in
theorem walk_good (j : Nat) (rd rs1 rs2 imm csr : Int) (w : World) (i0 : 0 ≤ imm) (i1 : imm < 4294967296) (hj : j < 57) (tf : FormTab w) (tm : EncTab w) :
    Calls Tryd.prog 3 #[.agg #[.int .i64 ((j : Int) + 1), .int .i64 rd, .int .i64 rs1, .int .i64 rs2, .int .u32 imm, .int .i64 csr]] w fun e w' => e = .returned (.bool true) ∧ Below w.heap.size w w' := by
  have HF : Hid (FormTab w) := tf
  have HM : Hid (EncTab w) := tm
  have hS : SixC (w.alloc (.cells #[.int .i64 ((j : Int) + 1), .int .i64 rd, .int .i64 rs1, .int .i64 rs2, .int .u32 imm, .int .i64 csr] 24)) w.heap.size ((j : Int) + 1) rd rs1 rs2 imm csr := sixC_new w _ rfl _ _ _ _ _ _ _
  have HS : Hid (SixC (w.alloc (.cells #[.int .i64 ((j : Int) + 1), .int .i64 rd, .int .i64 rs1, .int .i64 rs2, .int .u32 imm, .int .i64 csr] 24)) w.heap.size ((j : Int) + 1) rd rs1 rs2 imm csr) := hS
  have hW : Below w.heap.size w (w.alloc (.cells #[.int .i64 ((j : Int) + 1), .int .i64 rd, .int .i64 rs1, .int .i64 rs2, .int .u32 imm, .int .i64 csr] 24)) := (Below.refl _ _).alloc (Nat.le_refl _) _
  clear tf tm hS
  generalize hm : matchL.getD j 0 = m
  have HL : Hid (matchL.getD j 0 = m) := hm
  clear hm
  have g0 : (0 : Int) ≤ (j : Int) := by omega
  have g1 : (j : Int) < 57 := by omega
  have g2 : IntKind.i64.wrap (j : Int) = j := by rw [IntKind.wrap_i64]; omega
  have g3 : IntKind.i64.wrap ((j : Int) + 1 - 1) = j := by rw [IntKind.wrap_i64]; omega
  have HEM : Hid (∀ w, EncTab w → Calls Tryd.prog 8 #[.int .i64 ((j : Int) + 1)] w fun e w' => e = .returned (.tuple #[.int .u32 m, .int .i64 0]) ∧ w' = w) := fun w tm => ematch_yes (j + 1) m HL.out (by omega) (by omega) w tm
  cases hok : okB ((j : Int) + 1) rd rs1 rs2 imm csr
  · have HO : Hid (okB ((j : Int) + 1) rd rs1 rs2 imm csr = false) := hok
    clear hok
    go_enter Tryd.func3, Tryd.ntmps3
    go_wp2_with fail
    generalize w.alloc (.cells #[.int .i64 ((j : Int) + 1), .int .i64 rd, .int .i64 rs1, .int .i64 rs2, .int .u32 imm, .int .i64 csr] 24) = W at *
    refine (enc_f _ rd rs1 rs2 imm csr _ i0 i1 HO.out (FormTab.below HF.out hW) (EncTab.below HM.out hW)).mono ?_
    rintro e w1 ⟨rfl, hb⟩
    have HS1 : Hid (SixC w1 w.heap.size ((j : Int) + 1) rd rs1 rs2 imm csr) := SixC.on HS.out hb
    have hW1 : Hid (Below w.heap.size w w1) := hW.trans (hb.mono hW.size)
    clear HS hb hW
    obtain ⟨c0, c1, c2, c3, c4, c5⟩ := HS1.out
    go_wp2_with fail
    refine (HEM.out _ (EncTab.below HM.out hW1.out)).mono ?_
    rintro e w2 ⟨rfl, hw⟩
    have hw := hw.symm
    subst hw
    go_wp2_with fail
    refine (renc_f _ rd rs1 rs2 imm csr _ i0 i1 HO.out).mono ?_
    rintro e w3 ⟨rfl, hb⟩
    have HS3 : Hid (SixC w3 w.heap.size ((j : Int) + 1) rd rs1 rs2 imm csr) := SixC.on HS1.out hb
    have hW3 : Hid (Below w.heap.size w w3) := Below.trans hW1.out (hb.mono hW1.out.size)
    clear hb c0 c1 c2 c3 c4 c5
    obtain ⟨c0, c1, c2, c3, c4, c5⟩ := HS3.out
    go_wp2_with fail
    go_region_with (first | (go_at_call 11; refine (patt_any j hj _).mono ?_; rintro e w5 ⟨rfl, hb5, hc⟩; rw [HL.out] at hc; have hc : w5.cell? ⟨w3.heap.size, j * 2 + 1, none⟩ = some (.int .u32 m) := hc; have hW5 : Hid (Below w.heap.size w w5) := Below.trans hW3.out.drew (hb5.mono hW3.out.size); have HS5 : Hid (SixC w5 w.heap.size ((j : Int) + 1) rd rs1 rs2 imm csr) := SixC.on (SixC.on HS3.out ((Below.refl w3.heap.size w3).drew)) hb5; have k0 := HS5.out.1; clear hb5))
    all_goals (go_wp2_with fail)
    all_goals refine (eawake_any _ (FormTab.below HF.out hW5.out) (EncTab.below HM.out hW5.out)).mono ?_
    all_goals rintro e w6 ⟨rfl, hb6⟩
    all_goals go_wp2
    all_goals go_ret
    all_goals exact ⟨rfl, Below.trans hW5.out (hb6.mono hW5.out.size)⟩
  · have HO : Hid (okB ((j : Int) + 1) rd rs1 rs2 imm csr = true) := hok
    clear hok
    generalize hwd : wordOf ((j : Int) + 1) rd rs1 rs2 imm csr = wd
    have HWD : Hid (wordOf ((j : Int) + 1) rd rs1 rs2 imm csr = wd) := hwd
    clear hwd
    go_enter Tryd.func3, Tryd.ntmps3
    go_wp2_with fail
    generalize w.alloc (.cells #[.int .i64 ((j : Int) + 1), .int .i64 rd, .int .i64 rs1, .int .i64 rs2, .int .u32 imm, .int .i64 csr] 24) = W at *
    refine (enc_t _ rd rs1 rs2 imm csr _ i0 i1 HO.out (FormTab.below HF.out hW) (EncTab.below HM.out hW)).mono ?_
    rw [HWD.out]
    rintro e w1 ⟨rfl, hb⟩
    have HS1 : Hid (SixC w1 w.heap.size ((j : Int) + 1) rd rs1 rs2 imm csr) := SixC.on HS.out hb
    have hW1 : Hid (Below w.heap.size w w1) := hW.trans (hb.mono hW.size)
    clear HS hb hW
    obtain ⟨c0, c1, c2, c3, c4, c5⟩ := HS1.out
    go_wp2_with fail
    refine (HEM.out _ (EncTab.below HM.out hW1.out)).mono ?_
    rintro e w2 ⟨rfl, hw⟩
    have hw := hw.symm
    subst hw
    go_wp2_with fail
    refine (renc_t _ rd rs1 rs2 imm csr _ i0 i1 HO.out).mono ?_
    rw [HWD.out]
    rintro e w3 ⟨rfl, hb⟩
    have HS3 : Hid (SixC w3 w.heap.size ((j : Int) + 1) rd rs1 rs2 imm csr) := SixC.on HS1.out hb
    have hW3 : Hid (Below w.heap.size w w3) := Below.trans hW1.out (hb.mono hW1.out.size)
    clear hb c0 c1 c2 c3 c4 c5
    obtain ⟨c0, c1, c2, c3, c4, c5⟩ := HS3.out
    go_wp2_with fail
    go_region_with (first | (go_at_call 11; refine (patt_any j hj _).mono ?_; rintro e w5 ⟨rfl, hb5, hc⟩; rw [HL.out] at hc; have hc : w5.cell? ⟨w3.heap.size, j * 2 + 1, none⟩ = some (.int .u32 m) := hc; have hW5 : Hid (Below w.heap.size w w5) := Below.trans hW3.out.drew (hb5.mono hW3.out.size); have HS5 : Hid (SixC w5 w.heap.size ((j : Int) + 1) rd rs1 rs2 imm csr) := SixC.on (SixC.on HS3.out ((Below.refl w3.heap.size w3).drew)) hb5; have k0 := HS5.out.1; clear hb5))
    all_goals (go_wp2_with fail)
    all_goals refine (eawake_any _ (FormTab.below HF.out hW5.out) (EncTab.below HM.out hW5.out)).mono ?_
    all_goals rintro e w6 ⟨rfl, hb6⟩
    all_goals go_wp2
    all_goals go_ret
    all_goals exact ⟨rfl, Below.trans hW5.out (hb6.mono hW5.out.size)⟩

theorem walk (op rd rs1 rs2 imm csr : Int) (w : World) (w0 : (Lit.int .i64 op).wf = true) (w1 : (Lit.int .i64 rd).wf = true) (w2 : (Lit.int .i64 rs1).wf = true) (w3 : (Lit.int .i64 rs2).wf = true) (w4 : (Lit.int .u32 imm).wf = true) (w5 : (Lit.int .i64 csr).wf = true) (tf : FormTab w) (tm : EncTab w) :
    Calls Tryd.prog 3 #[.agg #[.int .i64 op, .int .i64 rd, .int .i64 rs1, .int .i64 rs2, .int .u32 imm, .int .i64 csr]] w fun e w' => e = .returned (.bool true) ∧ Below w.heap.size w w' := by
  have hi := bounds_u32 w4
  by_cases h : 1 ≤ op ∧ op < 58
  · obtain ⟨j, rfl⟩ : ∃ j : Nat, op = (j : Int) + 1 := ⟨(op - 1).toNat, by omega⟩
    exact walk_good j rd rs1 rs2 imm csr w hi.1 (by omega) (by omega) tf tm
  · exact walk_bad op rd rs1 rs2 imm csr w hi.1 (by omega) h tf tm
end encodeWords
end Go.Proofs.YtlceglloikamnaaDoor
