/- Layer 5: the document's own Text and Word, of any instruction and word. -/
import Derived.Test.YtakomdopeadcjaaDoorDisSpec
import Derived.Test.YtakomdopeadcjaaDoorDisText0
import Derived.Test.YtakomdopeadcjaaDoorDisText1
import Derived.Test.YtakomdopeadcjaaDoorDisText2
import Derived.Test.YtakomdopeadcjaaDoorDisText3a
import Derived.Test.YtakomdopeadcjaaDoorDisText3b
import Derived.Test.YtakomdopeadcjaaDoorDisText4
import Derived.Test.YtakomdopeadcjaaDoorDisText5
import Derived.Test.YtakomdopeadcjaaDoorDisText6
import Derived.Test.YtakomdopeadcjaaDoorDisText7
import Derived.Test.YtakomdopeadcjaaDoorDisText8
import Derived.Test.YtakomdopeadcjaaDoorDisText9
import Derived.Test.YtakomdopeadcjaaDoorDecRefDec
namespace Go.Proofs.YtakomdopeadcjaaDoor
open Go.RowKit
set_option linter.unusedVariables false

theorem rtext_t (op rd rs1 rs2 imm csr : Int) (w : World) (i0 : 0 ≤ imm) (i1 : imm < 4294967296) (h : txB op rd rs1 rs2 imm csr = true) :
    Calls Tryd.prog 13 #[.agg #[.int .i64 op, .int .i64 rd, .int .i64 rs1, .int .i64 rs2, .int .u32 imm, .int .i64 csr]] w fun e w' => e = .returned (.tuple #[.string (bs (textL op.toNat rd rs1 rs2 imm csr)), .bool true]) ∧ Below w.heap.size w w' := by
  obtain ⟨k, rfl, et, hk, hk0, hr⟩ := txB_t h
  rw [et]
  rcases form10 (formZ_lt k hk) with hz | hz | hz | hz | hz | hz | hz | hz | hz | hz
  · exact rtext_0 k hz rd rs1 rs2 imm csr w hk hk0 i0 i1 hr
  · exact rtext_1 k hz rd rs1 rs2 imm csr w hk hk0 i0 i1 hr
  · exact rtext_2 k hz rd rs1 rs2 imm csr w hk hk0 i0 i1 hr
  · by_cases c : k ≤ 15
    · exact rtext_3a k hz c rd rs1 rs2 imm csr w hk hk0 i0 i1 hr
    · exact rtext_3b k hz c rd rs1 rs2 imm csr w hk hk0 i0 i1 hr
  · exact rtext_4 k hz rd rs1 rs2 imm csr w hk hk0 i0 i1 hr
  · exact rtext_5 k hz rd rs1 rs2 imm csr w hk hk0 i0 i1 hr
  · exact rtext_6 k hz rd rs1 rs2 imm csr w hk hk0 i0 i1 hr
  · exact rtext_7 k hz rd rs1 rs2 imm csr w hk hk0 i0 i1 hr
  · exact rtext_8 k hz rd rs1 rs2 imm csr w hk hk0 i0 i1 hr
  · exact rtext_9 k hz rd rs1 rs2 imm csr w hk hk0 i0 i1 hr

theorem rtext_f (op rd rs1 rs2 imm csr : Int) (w : World) (i0 : 0 ≤ imm) (i1 : imm < 4294967296) (h : txB op rd rs1 rs2 imm csr = false) :
    Calls Tryd.prog 13 #[.agg #[.int .i64 op, .int .i64 rd, .int .i64 rs1, .int .i64 rs2, .int .u32 imm, .int .i64 csr]] w fun e w' => e = .returned (.tuple #[.string ⟨#[]⟩, .bool false]) ∧ Below w.heap.size w w' := by
  rcases txB_f h with hb | ⟨k, rfl, hk, hk0, hr⟩
  · exact rtext_bad op rd rs1 rs2 imm csr w hb
  · exact rtext_no k rd rs1 rs2 imm csr w hk hk0 i0 i1 hr

theorem kind_txB (x : Int) : txB (kindOf x : Int) (fldRd x (formZ (kindOf x))) (fldRs1 x (formZ (kindOf x))) (fldRs2 x (formZ (kindOf x))) (immOf x (formZ (kindOf x))) (fldCsr x (formZ (kindOf x))) = decide (kindOf x ≠ 0) := by
  have hl := kind_lt x
  unfold txB
  rw [show ((kindOf x : Int)).toNat = kindOf x from by omega, fields_right x _ (formZ_lt _ hl), Bool.and_true]
  by_cases h : kindOf x = 0
  · rw [h]; decide
  · rw [decide_eq_true (by omega : 1 ≤ (kindOf x : Int) ∧ (kindOf x : Int) < 58), decide_eq_true h]

set_option maxHeartbeats 1000000 in
theorem rword_any (x : Int) (w : World) (x0 : 0 ≤ x) (x1 : x < 4294967296) :
    Calls Tryd.prog 14 #[.int .u32 x] w fun e w' => e = .returned (.string (bs (wordL x))) ∧ Below w.heap.size w w' := by
  have hi := immOf_bd x (formZ (kindOf x))
  have hk := kind_txB x
  have hI : insV x = .agg #[.int .i64 (kindOf x), .int .i64 (fldRd x (formZ (kindOf x))), .int .i64 (fldRs1 x (formZ (kindOf x))), .int .i64 (fldRs2 x (formZ (kindOf x))), .int .u32 (immOf x (formZ (kindOf x))), .int .i64 (fldCsr x (formZ (kindOf x)))] := rfl
  by_cases hz : kindOf x = 0
  · have HW : Hid (bs (wordL x) = bs [46, 119, 111, 114, 100, 32] ++ bs (numL x)) := by
      show bs (wordL x) = _
      unfold wordL
      rw [if_pos hz, bs_app]
    have hs := numS_size x
    rw [decide_eq_false (by simpa using hz)] at hk
    have HK : Hid _ := hk
    have HI : Hid _ := hI
    have HB : Hid _ := hi
    clear hk hI hi hz
    generalize (kindOf x : Int) = op at *
    generalize fldRd x (formZ (kindOf x)) = rd at *
    generalize fldRs1 x (formZ (kindOf x)) = rs1 at *
    generalize fldRs2 x (formZ (kindOf x)) = rs2 at *
    generalize immOf x (formZ (kindOf x)) = imm at *
    generalize fldCsr x (formZ (kindOf x)) = csr at *
    go_enter Tryd.func14, Tryd.ntmps14
    go_wp2_with fail
    refine (rdec_any x _ x0 x1).mono ?_
    rintro e w1 ⟨rfl, hb1⟩
    rw [HI.out]
    have HB1 : Hid (Below w.heap.size w w1) := hb1
    clear hb1
    go_wp2_with fail
    refine (rtext_f op rd rs1 rs2 imm csr _ HB.out.1 HB.out.2 HK.out).mono ?_
    rintro e w2 ⟨rfl, hb2⟩
    have HB2 : Hid (Below w.heap.size w w2) := HB1.out.trans (hb2.mono HB1.out.size)
    clear hb2
    go_wp2_with fail
    refine (rnum_any x _ (by omega) (by omega)).mono ?_
    rintro e w3 ⟨rfl, hw⟩
    have hw := hw.symm
    subst hw
    go_wp2
    go_ret
    rw [HW.out]
    exact ⟨rfl, HB2.out⟩
  · have HW : Hid (bs (wordL x) = bs (textL (kindOf x : Int).toNat (fldRd x (formZ (kindOf x))) (fldRs1 x (formZ (kindOf x))) (fldRs2 x (formZ (kindOf x))) (immOf x (formZ (kindOf x))) (fldCsr x (formZ (kindOf x))))) := by
      show bs (wordL x) = _
      unfold wordL
      rw [if_neg hz, Int.toNat_natCast]
    rw [decide_eq_true hz] at hk
    have HK : Hid _ := hk
    have HI : Hid _ := hI
    have HB : Hid _ := hi
    clear hk hI hi hz
    generalize (kindOf x : Int) = op at *
    generalize fldRd x (formZ (kindOf x)) = rd at *
    generalize fldRs1 x (formZ (kindOf x)) = rs1 at *
    generalize fldRs2 x (formZ (kindOf x)) = rs2 at *
    generalize immOf x (formZ (kindOf x)) = imm at *
    generalize fldCsr x (formZ (kindOf x)) = csr at *
    go_enter Tryd.func14, Tryd.ntmps14
    go_wp2_with fail
    refine (rdec_any x _ x0 x1).mono ?_
    rintro e w1 ⟨rfl, hb1⟩
    rw [HI.out]
    have HB1 : Hid (Below w.heap.size w w1) := hb1
    clear hb1
    go_wp2_with fail
    refine (rtext_t op rd rs1 rs2 imm csr _ HB.out.1 HB.out.2 HK.out).mono ?_
    rintro e w2 ⟨rfl, hb2⟩
    have HB2 : Hid (Below w.heap.size w w2) := HB1.out.trans (hb2.mono HB1.out.size)
    clear hb2
    go_wp2
    go_ret
    rw [HW.out]
    exact ⟨rfl, HB2.out⟩
end Go.Proofs.YtakomdopeadcjaaDoor
