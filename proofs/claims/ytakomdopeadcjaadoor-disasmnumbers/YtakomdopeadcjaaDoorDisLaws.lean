/- Layer 5: walks of DisasmNumbers, DisasmTexts and DisasmApart, of whatever functions answer as they are asked to. -/
import Derived.Test.YtakomdopeadcjaaDoorDisSpec
import Derived.Test.YtakomdopeadcjaaDoorDisTextAll
namespace Go.Proofs.YtakomdopeadcjaaDoor
open Go.RowKit
set_option linter.unusedVariables false

theorem aw_bne : bs (wordL 4263550691) = ⟨#[98, 110, 101, 32, 120, 49, 44, 32, 120, 50, 44, 32, 45, 52]⟩ := by rfl
theorem aw_zero : bs (wordL 0) = ⟨#[46, 119, 111, 114, 100, 32, 48]⟩ := by rfl
theorem aw_num : bs (numL (-120)) = ⟨#[45, 49, 50, 48]⟩ := by rfl

set_option maxHeartbeats 1000000 in
theorem dawake5_any (NP : NumP) (WP : WordP) (w : World) (tf : FormTab w) (tn : NameTab w) (tp : PowTab w) (tm : MatchTab w) : Calls Tryd.prog 11 #[] w fun e w' => e = .returned (.bool true) ∧ Below w.heap.size w w' := by
  have HF : Hid (FormTab w) := tf
  have HN : Hid (NameTab w) := tn
  have HK : Hid (PowTab w) := tp
  have HM : Hid (MatchTab w) := tm
  have HP : Hid NumP := NP
  have HQ : Hid WordP := WP
  clear tf tn tp tm NP WP
  go_enter Tryd.func11, Tryd.ntmps11
  go_wp2_with fail
  refine (HQ.out 4263550691 _ (by omega) (by omega) HF.out HN.out HK.out HM.out).mono ?_
  rw [aw_bne]
  rintro e w1 ⟨rfl, hb⟩
  have HB1 : Hid (Below w.heap.size w w1) := hb
  clear hb
  go_wp2_with fail
  refine (HQ.out 0 _ (by omega) (by omega) (FormTab.below HF.out HB1.out) (NameTab.below HN.out HB1.out) (powTab_below HK.out HB1.out) (MatchTab.below HM.out HB1.out)).mono ?_
  rw [aw_zero]
  rintro e w2 ⟨rfl, hb⟩
  have HB2 : Hid (Below w.heap.size w w2) := HB1.out.trans (hb.mono HB1.out.size)
  clear hb
  go_wp2_with fail
  refine (HP.out (-120) _ (by omega) (by omega) (powTab_below HK.out HB2.out)).mono ?_
  rw [aw_num]
  rintro e w3 ⟨rfl, hb⟩
  have HB3 : Hid (Below w.heap.size w w3) := HB2.out.trans (hb.mono HB2.out.size)
  clear hb
  go_wp2
  go_ret
  exact ⟨rfl, HB3.out⟩

set_option maxHeartbeats 1000000 in
theorem disasmNumbers_walk (NP : NumP) (RP : RegP) (WP : WordP) (n : Int) (w : World) (h0 : -9223372036854775808 ≤ n) (h1 : n < 9223372036854775808) (tf : FormTab w) (tn : NameTab w) (tp : PowTab w) (tm : MatchTab w) :
    Calls Tryd.prog 3 #[.int .i64 n] w fun e w' => e = .returned (.bool true) ∧ Below w.heap.size w w' := by
  have HF : Hid (FormTab w) := tf
  have HN : Hid (NameTab w) := tn
  have HK : Hid (PowTab w) := tp
  have HM : Hid (MatchTab w) := tm
  have HP : Hid NumP := NP
  have HQ : Hid WordP := WP
  have HR : Hid RegP := RP
  clear tf tn tp tm NP WP RP
  go_enter Tryd.func3, Tryd.ntmps3
  go_wp2_with fail
  refine (HP.out n _ h0 h1 HK.out).mono ?_
  rintro e w1 ⟨rfl, hb⟩
  have HB1 : Hid (Below w.heap.size w w1) := hb
  clear hb
  go_wp2_with fail
  refine (rnum_any n _ h0 h1).mono ?_
  rintro e w2 ⟨rfl, hw⟩
  have hw := hw.symm
  subst hw
  go_wp2_with fail
  refine (HR.out n _ h0 h1 (powTab_below HK.out HB1.out)).mono ?_
  rintro e w3 ⟨rfl, hb⟩
  have HB3 : Hid (Below w.heap.size w w3) := HB1.out.trans (hb.mono HB1.out.size)
  clear hb
  go_wp2_with fail
  refine (rreg_any n _ h0 h1).mono ?_
  rintro e w4 ⟨rfl, hw⟩
  have hw := hw.symm
  subst hw
  go_wp2_with fail
  refine (dawake5_any HP.out HQ.out _ (FormTab.below HF.out HB3.out) (NameTab.below HN.out HB3.out) (powTab_below HK.out HB3.out) (MatchTab.below HM.out HB3.out)).mono ?_
  rintro e w5 ⟨rfl, hb⟩
  go_wp2
  go_ret
  exact ⟨rfl, HB3.out.trans (hb.mono HB3.out.size)⟩

set_option maxHeartbeats 2000000 in
theorem disasmTexts_walk (NP : NumP) (WP : WordP) (TP : TextP) (TQ : TextQ) (op rd rs1 rs2 imm csr : Int) (w : World) (i0 : 0 ≤ imm) (i1 : imm < 4294967296) (tf : FormTab w) (tn : NameTab w) (tp : PowTab w) (tm : MatchTab w) :
    Calls Tryd.prog 4 #[.agg #[.int .i64 op, .int .i64 rd, .int .i64 rs1, .int .i64 rs2, .int .u32 imm, .int .i64 csr]] w fun e w' => e = .returned (.bool true) ∧ Below w.heap.size w w' := by
  have HF : Hid (FormTab w) := tf
  have HN : Hid (NameTab w) := tn
  have HK : Hid (PowTab w) := tp
  have HM : Hid (MatchTab w) := tm
  have HP : Hid NumP := NP
  have HQ : Hid WordP := WP
  have HTP : Hid TextP := TP
  have HTQ : Hid TextQ := TQ
  clear tf tn tp tm NP WP TP TQ
  have HS : Hid (SixT (w.alloc (.cells #[.int .i64 op, .int .i64 rd, .int .i64 rs1, .int .i64 rs2, .int .u32 imm, .int .i64 csr] 27)) w.heap.size op rd rs1 rs2 imm csr) := sixT_new w _ rfl _ _ _ _ _ _ _
  have hW : Below w.heap.size w (w.alloc (.cells #[.int .i64 op, .int .i64 rd, .int .i64 rs1, .int .i64 rs2, .int .u32 imm, .int .i64 csr] 27)) := (Below.refl _ _).alloc (Nat.le_refl _) _
  cases hok : txB op rd rs1 rs2 imm csr
  · have HO : Hid (txB op rd rs1 rs2 imm csr = false) := hok
    clear hok
    go_enter Tryd.func4, Tryd.ntmps4
    go_wp2_with fail
    generalize w.alloc (.cells #[.int .i64 op, .int .i64 rd, .int .i64 rs1, .int .i64 rs2, .int .u32 imm, .int .i64 csr] 27) = W at *
    refine (HTQ.out op rd rs1 rs2 imm csr _ i0 i1 (FormTab.below HF.out hW) (NameTab.below HN.out hW) (powTab_below HK.out hW) HO.out).mono ?_
    rintro e w1 ⟨rfl, hb⟩
    have HS1 : Hid (SixT w1 w.heap.size op rd rs1 rs2 imm csr) := SixT.on HS.out hb
    have hW1 : Hid (Below w.heap.size w w1) := hW.trans (hb.mono hW.size)
    clear HS hb hW
    obtain ⟨c0, c1, c2, c3, c4, c5⟩ := HS1.out
    go_wp2_with fail
    refine (rtext_f op rd rs1 rs2 imm csr _ i0 i1 HO.out).mono ?_
    rintro e w2 ⟨rfl, hb⟩
    have HB2 : Hid (Below w.heap.size w w2) := hW1.out.trans (hb.mono hW1.out.size)
    clear hb
    go_wp2_with fail
    refine (dawake5_any HP.out HQ.out _ (FormTab.below HF.out HB2.out) (NameTab.below HN.out HB2.out) (powTab_below HK.out HB2.out) (MatchTab.below HM.out HB2.out)).mono ?_
    rintro e w3 ⟨rfl, hb⟩
    go_wp2
    go_ret
    exact ⟨rfl, HB2.out.trans (hb.mono HB2.out.size)⟩
  · have HO : Hid (txB op rd rs1 rs2 imm csr = true) := hok
    clear hok
    go_enter Tryd.func4, Tryd.ntmps4
    go_wp2_with fail
    generalize w.alloc (.cells #[.int .i64 op, .int .i64 rd, .int .i64 rs1, .int .i64 rs2, .int .u32 imm, .int .i64 csr] 27) = W at *
    refine (HTP.out op rd rs1 rs2 imm csr _ i0 i1 (FormTab.below HF.out hW) (NameTab.below HN.out hW) (powTab_below HK.out hW) HO.out).mono ?_
    rintro e w1 ⟨rfl, hb⟩
    have HS1 : Hid (SixT w1 w.heap.size op rd rs1 rs2 imm csr) := SixT.on HS.out hb
    have hW1 : Hid (Below w.heap.size w w1) := hW.trans (hb.mono hW.size)
    clear HS hb hW
    obtain ⟨c0, c1, c2, c3, c4, c5⟩ := HS1.out
    go_wp2_with fail
    refine (rtext_t op rd rs1 rs2 imm csr _ i0 i1 HO.out).mono ?_
    rintro e w2 ⟨rfl, hb⟩
    have HB2 : Hid (Below w.heap.size w w2) := hW1.out.trans (hb.mono hW1.out.size)
    clear hb
    go_wp2_with fail
    refine (dawake5_any HP.out HQ.out _ (FormTab.below HF.out HB2.out) (NameTab.below HN.out HB2.out) (powTab_below HK.out HB2.out) (MatchTab.below HM.out HB2.out)).mono ?_
    rintro e w3 ⟨rfl, hb⟩
    go_wp2
    go_ret
    exact ⟨rfl, HB2.out.trans (hb.mono HB2.out.size)⟩
end Go.Proofs.YtakomdopeadcjaaDoor
