/- Layer 5: walk of DisasmApart, of whatever functions answer as they are asked to. -/
import Derived.Test.YtakomdopeadcjaaDoorDisLaws
namespace Go.Proofs.YtakomdopeadcjaaDoor
open Go.RowKit
set_option linter.unusedVariables false

theorem tstr_ne {a b : ByteArray} (h : a ≠ b) : (a.toList == b.toList) = false := by
  rw [beq_eq_false_iff_ne, ByteArray.toList_eq, ByteArray.toList_eq]
  intro e
  apply h
  obtain ⟨⟨x⟩⟩ := a
  obtain ⟨⟨y⟩⟩ := b
  simp at e
  rw [e]

/-- P5.2, as the law meets it. -/
theorem text_one {op rd rs1 rs2 imm csr qop qrd qrs1 qrs2 qimm qcsr : Int} (i0 : 0 ≤ imm) (i1 : imm < 4294967296) (j0 : 0 ≤ qimm) (j1 : qimm < 4294967296) (h : txB op rd rs1 rs2 imm csr = true) (g : txB qop qrd qrs1 qrs2 qimm qcsr = true)
    (e : bs (textL op.toNat rd rs1 rs2 imm csr) = bs (textL qop.toNat qrd qrs1 qrs2 qimm qcsr)) : op = qop ∧ rd = qrd ∧ rs1 = qrs1 ∧ rs2 = qrs2 ∧ imm = qimm ∧ csr = qcsr := by
  obtain ⟨k, rfl, et, hk, hk0, hr⟩ := txB_t h
  obtain ⟨j, rfl, et', hj, hj0, hr'⟩ := txB_t g
  rw [et, et'] at e
  obtain ⟨e0, e1, e2, e3, e4, e5⟩ := text_inj k j hk hj rd rs1 rs2 imm csr qrd qrs1 qrs2 qimm qcsr i0 i1 j0 j1 hr hr' (bs_inj e)
  exact ⟨by rw [e0], e1, e2, e3, e4, e5⟩

set_option maxHeartbeats 4000000 in
theorem apart_f (NP : NumP) (WP : WordP) (TP : TextP) (TQ : TextQ) (op rd rs1 rs2 imm csr qop qrd qrs1 qrs2 qimm qcsr : Int) (w : World) (i0 : 0 ≤ imm) (i1 : imm < 4294967296) (j0 : 0 ≤ qimm) (j1 : qimm < 4294967296) (tf : FormTab w) (tn : NameTab w) (tp : PowTab w) (tm : MatchTab w) (ha : txB op rd rs1 rs2 imm csr = false) (hb : txB qop qrd qrs1 qrs2 qimm qcsr = false) :
    Calls Tryd.prog 6 #[.agg #[.int .i64 op, .int .i64 rd, .int .i64 rs1, .int .i64 rs2, .int .u32 imm, .int .i64 csr], .agg #[.int .i64 qop, .int .i64 qrd, .int .i64 qrs1, .int .i64 qrs2, .int .u32 qimm, .int .i64 qcsr]] w fun e w' => e = .returned (.bool true) ∧ Below w.heap.size w w' := by
  have HF : Hid (FormTab w) := tf
  have HN : Hid (NameTab w) := tn
  have HK : Hid (PowTab w) := tp
  have HM : Hid (MatchTab w) := tm
  have HP : Hid NumP := NP
  have HQ : Hid WordP := WP
  have HTP : Hid TextP := TP
  have HTQ : Hid TextQ := TQ
  have HA : Hid (txB op rd rs1 rs2 imm csr = false) := ha
  have HB : Hid (txB qop qrd qrs1 qrs2 qimm qcsr = false) := hb
  clear tf tn tp tm NP WP TP TQ ha hb
  have HS : Hid (SixT ((w.alloc (.cells #[.int .i64 op, .int .i64 rd, .int .i64 rs1, .int .i64 rs2, .int .u32 imm, .int .i64 csr] 27)).alloc (.cells #[.int .i64 qop, .int .i64 qrd, .int .i64 qrs1, .int .i64 qrs2, .int .u32 qimm, .int .i64 qcsr] 27)) w.heap.size op rd rs1 rs2 imm csr) := (sixT_new w _ rfl _ _ _ _ _ _ _).on ((Below.refl _ _).alloc (Nat.le_refl _) _)
  have HT : Hid (SixT ((w.alloc (.cells #[.int .i64 op, .int .i64 rd, .int .i64 rs1, .int .i64 rs2, .int .u32 imm, .int .i64 csr] 27)).alloc (.cells #[.int .i64 qop, .int .i64 qrd, .int .i64 qrs1, .int .i64 qrs2, .int .u32 qimm, .int .i64 qcsr] 27)) (w.heap.size + 1) qop qrd qrs1 qrs2 qimm qcsr) := sixT_new _ _ (by simp) _ _ _ _ _ _ _
  have hW : Below w.heap.size w ((w.alloc (.cells #[.int .i64 op, .int .i64 rd, .int .i64 rs1, .int .i64 rs2, .int .u32 imm, .int .i64 csr] 27)).alloc (.cells #[.int .i64 qop, .int .i64 qrd, .int .i64 qrs1, .int .i64 qrs2, .int .u32 qimm, .int .i64 qcsr] 27)) := ((Below.refl _ _).alloc (Nat.le_refl _) _).alloc (by simp) _
  go_enter Tryd.func6, Tryd.ntmps6
  go_wp2_with fail
  generalize ((w.alloc (.cells #[.int .i64 op, .int .i64 rd, .int .i64 rs1, .int .i64 rs2, .int .u32 imm, .int .i64 csr] 27)).alloc (.cells #[.int .i64 qop, .int .i64 qrd, .int .i64 qrs1, .int .i64 qrs2, .int .u32 qimm, .int .i64 qcsr] 27)) = W at *
  refine (HTQ.out op rd rs1 rs2 imm csr _ i0 i1 (FormTab.below HF.out hW) (NameTab.below HN.out hW) (powTab_below HK.out hW) HA.out).mono ?_
  rintro e w1 ⟨rfl, k1⟩
  have HS1 : Hid (SixT w1 w.heap.size op rd rs1 rs2 imm csr) := SixT.on HS.out k1
  have HT1 : Hid (SixT w1 (w.heap.size + 1) qop qrd qrs1 qrs2 qimm qcsr) := SixT.on HT.out k1
  have hW1 : Hid (Below w.heap.size w w1) := hW.trans (k1.mono hW.size)
  clear HS HT k1 hW
  obtain ⟨c0, c1, c2, c3, c4, c5⟩ := HS1.out
  obtain ⟨x0, x1, x2, x3, x4, x5⟩ := HT1.out
  go_wp2_with fail
  refine (HTQ.out qop qrd qrs1 qrs2 qimm qcsr _ j0 j1 (FormTab.below HF.out hW1.out) (NameTab.below HN.out hW1.out) (powTab_below HK.out hW1.out) HB.out).mono ?_
  rintro e w2 ⟨rfl, k2⟩
  have HS2 : Hid (SixT w2 w.heap.size op rd rs1 rs2 imm csr) := SixT.on HS1.out k2
  have HT2 : Hid (SixT w2 (w.heap.size + 1) qop qrd qrs1 qrs2 qimm qcsr) := SixT.on HT1.out k2
  have HB2 : Hid (Below w.heap.size w w2) := hW1.out.trans (k2.mono hW1.out.size)
  clear k2 c0 c1 c2 c3 c4 c5 x0 x1 x2 x3 x4 x5
  obtain ⟨c0, c1, c2, c3, c4, c5⟩ := HS2.out
  obtain ⟨x0, x1, x2, x3, x4, x5⟩ := HT2.out
  go_wp2_with fail
  all_goals
    refine (dawake5_any HP.out HQ.out _ (FormTab.below HF.out HB2.out) (NameTab.below HN.out HB2.out) (powTab_below HK.out HB2.out) (MatchTab.below HM.out HB2.out)).mono ?_
    rintro e w3 ⟨rfl, k3⟩
    go_wp2
    go_ret
    exact ⟨rfl, HB2.out.trans (k3.mono HB2.out.size)⟩

set_option maxHeartbeats 4000000 in
theorem apart_ft (NP : NumP) (WP : WordP) (TP : TextP) (TQ : TextQ) (op rd rs1 rs2 imm csr qop qrd qrs1 qrs2 qimm qcsr : Int) (w : World) (i0 : 0 ≤ imm) (i1 : imm < 4294967296) (j0 : 0 ≤ qimm) (j1 : qimm < 4294967296) (tf : FormTab w) (tn : NameTab w) (tp : PowTab w) (tm : MatchTab w) (ha : txB op rd rs1 rs2 imm csr = false) (hb : txB qop qrd qrs1 qrs2 qimm qcsr = true) :
    Calls Tryd.prog 6 #[.agg #[.int .i64 op, .int .i64 rd, .int .i64 rs1, .int .i64 rs2, .int .u32 imm, .int .i64 csr], .agg #[.int .i64 qop, .int .i64 qrd, .int .i64 qrs1, .int .i64 qrs2, .int .u32 qimm, .int .i64 qcsr]] w fun e w' => e = .returned (.bool true) ∧ Below w.heap.size w w' := by
  have HF : Hid (FormTab w) := tf
  have HN : Hid (NameTab w) := tn
  have HK : Hid (PowTab w) := tp
  have HM : Hid (MatchTab w) := tm
  have HP : Hid NumP := NP
  have HQ : Hid WordP := WP
  have HTP : Hid TextP := TP
  have HTQ : Hid TextQ := TQ
  have HA : Hid (txB op rd rs1 rs2 imm csr = false) := ha
  have HB : Hid (txB qop qrd qrs1 qrs2 qimm qcsr = true) := hb
  clear tf tn tp tm NP WP TP TQ ha hb
  have HS : Hid (SixT ((w.alloc (.cells #[.int .i64 op, .int .i64 rd, .int .i64 rs1, .int .i64 rs2, .int .u32 imm, .int .i64 csr] 27)).alloc (.cells #[.int .i64 qop, .int .i64 qrd, .int .i64 qrs1, .int .i64 qrs2, .int .u32 qimm, .int .i64 qcsr] 27)) w.heap.size op rd rs1 rs2 imm csr) := (sixT_new w _ rfl _ _ _ _ _ _ _).on ((Below.refl _ _).alloc (Nat.le_refl _) _)
  have HT : Hid (SixT ((w.alloc (.cells #[.int .i64 op, .int .i64 rd, .int .i64 rs1, .int .i64 rs2, .int .u32 imm, .int .i64 csr] 27)).alloc (.cells #[.int .i64 qop, .int .i64 qrd, .int .i64 qrs1, .int .i64 qrs2, .int .u32 qimm, .int .i64 qcsr] 27)) (w.heap.size + 1) qop qrd qrs1 qrs2 qimm qcsr) := sixT_new _ _ (by simp) _ _ _ _ _ _ _
  have hW : Below w.heap.size w ((w.alloc (.cells #[.int .i64 op, .int .i64 rd, .int .i64 rs1, .int .i64 rs2, .int .u32 imm, .int .i64 csr] 27)).alloc (.cells #[.int .i64 qop, .int .i64 qrd, .int .i64 qrs1, .int .i64 qrs2, .int .u32 qimm, .int .i64 qcsr] 27)) := ((Below.refl _ _).alloc (Nat.le_refl _) _).alloc (by simp) _
  go_enter Tryd.func6, Tryd.ntmps6
  go_wp2_with fail
  generalize ((w.alloc (.cells #[.int .i64 op, .int .i64 rd, .int .i64 rs1, .int .i64 rs2, .int .u32 imm, .int .i64 csr] 27)).alloc (.cells #[.int .i64 qop, .int .i64 qrd, .int .i64 qrs1, .int .i64 qrs2, .int .u32 qimm, .int .i64 qcsr] 27)) = W at *
  refine (HTQ.out op rd rs1 rs2 imm csr _ i0 i1 (FormTab.below HF.out hW) (NameTab.below HN.out hW) (powTab_below HK.out hW) HA.out).mono ?_
  rintro e w1 ⟨rfl, k1⟩
  have HS1 : Hid (SixT w1 w.heap.size op rd rs1 rs2 imm csr) := SixT.on HS.out k1
  have HT1 : Hid (SixT w1 (w.heap.size + 1) qop qrd qrs1 qrs2 qimm qcsr) := SixT.on HT.out k1
  have hW1 : Hid (Below w.heap.size w w1) := hW.trans (k1.mono hW.size)
  clear HS HT k1 hW
  obtain ⟨c0, c1, c2, c3, c4, c5⟩ := HS1.out
  obtain ⟨x0, x1, x2, x3, x4, x5⟩ := HT1.out
  go_wp2_with fail
  refine (HTP.out qop qrd qrs1 qrs2 qimm qcsr _ j0 j1 (FormTab.below HF.out hW1.out) (NameTab.below HN.out hW1.out) (powTab_below HK.out hW1.out) HB.out).mono ?_
  rintro e w2 ⟨rfl, k2⟩
  have HS2 : Hid (SixT w2 w.heap.size op rd rs1 rs2 imm csr) := SixT.on HS1.out k2
  have HT2 : Hid (SixT w2 (w.heap.size + 1) qop qrd qrs1 qrs2 qimm qcsr) := SixT.on HT1.out k2
  have HB2 : Hid (Below w.heap.size w w2) := hW1.out.trans (k2.mono hW1.out.size)
  clear k2 c0 c1 c2 c3 c4 c5 x0 x1 x2 x3 x4 x5
  obtain ⟨c0, c1, c2, c3, c4, c5⟩ := HS2.out
  obtain ⟨x0, x1, x2, x3, x4, x5⟩ := HT2.out
  go_wp2_with fail
  all_goals
    refine (dawake5_any HP.out HQ.out _ (FormTab.below HF.out HB2.out) (NameTab.below HN.out HB2.out) (powTab_below HK.out HB2.out) (MatchTab.below HM.out HB2.out)).mono ?_
    rintro e w3 ⟨rfl, k3⟩
    go_wp2
    go_ret
    exact ⟨rfl, HB2.out.trans (k3.mono HB2.out.size)⟩

set_option maxHeartbeats 4000000 in
theorem apart_tf (NP : NumP) (WP : WordP) (TP : TextP) (TQ : TextQ) (op rd rs1 rs2 imm csr qop qrd qrs1 qrs2 qimm qcsr : Int) (w : World) (i0 : 0 ≤ imm) (i1 : imm < 4294967296) (j0 : 0 ≤ qimm) (j1 : qimm < 4294967296) (tf : FormTab w) (tn : NameTab w) (tp : PowTab w) (tm : MatchTab w) (ha : txB op rd rs1 rs2 imm csr = true) (hb : txB qop qrd qrs1 qrs2 qimm qcsr = false) :
    Calls Tryd.prog 6 #[.agg #[.int .i64 op, .int .i64 rd, .int .i64 rs1, .int .i64 rs2, .int .u32 imm, .int .i64 csr], .agg #[.int .i64 qop, .int .i64 qrd, .int .i64 qrs1, .int .i64 qrs2, .int .u32 qimm, .int .i64 qcsr]] w fun e w' => e = .returned (.bool true) ∧ Below w.heap.size w w' := by
  have HF : Hid (FormTab w) := tf
  have HN : Hid (NameTab w) := tn
  have HK : Hid (PowTab w) := tp
  have HM : Hid (MatchTab w) := tm
  have HP : Hid NumP := NP
  have HQ : Hid WordP := WP
  have HTP : Hid TextP := TP
  have HTQ : Hid TextQ := TQ
  have HA : Hid (txB op rd rs1 rs2 imm csr = true) := ha
  have HB : Hid (txB qop qrd qrs1 qrs2 qimm qcsr = false) := hb
  clear tf tn tp tm NP WP TP TQ ha hb
  have HS : Hid (SixT ((w.alloc (.cells #[.int .i64 op, .int .i64 rd, .int .i64 rs1, .int .i64 rs2, .int .u32 imm, .int .i64 csr] 27)).alloc (.cells #[.int .i64 qop, .int .i64 qrd, .int .i64 qrs1, .int .i64 qrs2, .int .u32 qimm, .int .i64 qcsr] 27)) w.heap.size op rd rs1 rs2 imm csr) := (sixT_new w _ rfl _ _ _ _ _ _ _).on ((Below.refl _ _).alloc (Nat.le_refl _) _)
  have HT : Hid (SixT ((w.alloc (.cells #[.int .i64 op, .int .i64 rd, .int .i64 rs1, .int .i64 rs2, .int .u32 imm, .int .i64 csr] 27)).alloc (.cells #[.int .i64 qop, .int .i64 qrd, .int .i64 qrs1, .int .i64 qrs2, .int .u32 qimm, .int .i64 qcsr] 27)) (w.heap.size + 1) qop qrd qrs1 qrs2 qimm qcsr) := sixT_new _ _ (by simp) _ _ _ _ _ _ _
  have hW : Below w.heap.size w ((w.alloc (.cells #[.int .i64 op, .int .i64 rd, .int .i64 rs1, .int .i64 rs2, .int .u32 imm, .int .i64 csr] 27)).alloc (.cells #[.int .i64 qop, .int .i64 qrd, .int .i64 qrs1, .int .i64 qrs2, .int .u32 qimm, .int .i64 qcsr] 27)) := ((Below.refl _ _).alloc (Nat.le_refl _) _).alloc (by simp) _
  go_enter Tryd.func6, Tryd.ntmps6
  go_wp2_with fail
  generalize ((w.alloc (.cells #[.int .i64 op, .int .i64 rd, .int .i64 rs1, .int .i64 rs2, .int .u32 imm, .int .i64 csr] 27)).alloc (.cells #[.int .i64 qop, .int .i64 qrd, .int .i64 qrs1, .int .i64 qrs2, .int .u32 qimm, .int .i64 qcsr] 27)) = W at *
  refine (HTP.out op rd rs1 rs2 imm csr _ i0 i1 (FormTab.below HF.out hW) (NameTab.below HN.out hW) (powTab_below HK.out hW) HA.out).mono ?_
  rintro e w1 ⟨rfl, k1⟩
  have HS1 : Hid (SixT w1 w.heap.size op rd rs1 rs2 imm csr) := SixT.on HS.out k1
  have HT1 : Hid (SixT w1 (w.heap.size + 1) qop qrd qrs1 qrs2 qimm qcsr) := SixT.on HT.out k1
  have hW1 : Hid (Below w.heap.size w w1) := hW.trans (k1.mono hW.size)
  clear HS HT k1 hW
  obtain ⟨c0, c1, c2, c3, c4, c5⟩ := HS1.out
  obtain ⟨x0, x1, x2, x3, x4, x5⟩ := HT1.out
  go_wp2_with fail
  refine (HTQ.out qop qrd qrs1 qrs2 qimm qcsr _ j0 j1 (FormTab.below HF.out hW1.out) (NameTab.below HN.out hW1.out) (powTab_below HK.out hW1.out) HB.out).mono ?_
  rintro e w2 ⟨rfl, k2⟩
  have HS2 : Hid (SixT w2 w.heap.size op rd rs1 rs2 imm csr) := SixT.on HS1.out k2
  have HT2 : Hid (SixT w2 (w.heap.size + 1) qop qrd qrs1 qrs2 qimm qcsr) := SixT.on HT1.out k2
  have HB2 : Hid (Below w.heap.size w w2) := hW1.out.trans (k2.mono hW1.out.size)
  clear k2 c0 c1 c2 c3 c4 c5 x0 x1 x2 x3 x4 x5
  obtain ⟨c0, c1, c2, c3, c4, c5⟩ := HS2.out
  obtain ⟨x0, x1, x2, x3, x4, x5⟩ := HT2.out
  go_wp2_with fail
  all_goals
    refine (dawake5_any HP.out HQ.out _ (FormTab.below HF.out HB2.out) (NameTab.below HN.out HB2.out) (powTab_below HK.out HB2.out) (MatchTab.below HM.out HB2.out)).mono ?_
    rintro e w3 ⟨rfl, k3⟩
    go_wp2
    go_ret
    exact ⟨rfl, HB2.out.trans (k3.mono HB2.out.size)⟩

set_option maxHeartbeats 4000000 in
theorem apart_eq (NP : NumP) (WP : WordP) (TP : TextP) (TQ : TextQ) (op rd rs1 rs2 imm csr qop qrd qrs1 qrs2 qimm qcsr : Int) (w : World) (i0 : 0 ≤ imm) (i1 : imm < 4294967296) (j0 : 0 ≤ qimm) (j1 : qimm < 4294967296) (tf : FormTab w) (tn : NameTab w) (tp : PowTab w) (tm : MatchTab w) (ha : txB op rd rs1 rs2 imm csr = true) (hb : txB qop qrd qrs1 qrs2 qimm qcsr = true) (heq : op = qop ∧ rd = qrd ∧ rs1 = qrs1 ∧ rs2 = qrs2 ∧ imm = qimm ∧ csr = qcsr) :
    Calls Tryd.prog 6 #[.agg #[.int .i64 op, .int .i64 rd, .int .i64 rs1, .int .i64 rs2, .int .u32 imm, .int .i64 csr], .agg #[.int .i64 qop, .int .i64 qrd, .int .i64 qrs1, .int .i64 qrs2, .int .u32 qimm, .int .i64 qcsr]] w fun e w' => e = .returned (.bool true) ∧ Below w.heap.size w w' := by
  have HF : Hid (FormTab w) := tf
  have HN : Hid (NameTab w) := tn
  have HK : Hid (PowTab w) := tp
  have HM : Hid (MatchTab w) := tm
  have HP : Hid NumP := NP
  have HQ : Hid WordP := WP
  have HTP : Hid TextP := TP
  have HTQ : Hid TextQ := TQ
  have HA : Hid (txB op rd rs1 rs2 imm csr = true) := ha
  have HB : Hid (txB qop qrd qrs1 qrs2 qimm qcsr = true) := hb
  clear tf tn tp tm NP WP TP TQ ha hb
  have HS : Hid (SixT ((w.alloc (.cells #[.int .i64 op, .int .i64 rd, .int .i64 rs1, .int .i64 rs2, .int .u32 imm, .int .i64 csr] 27)).alloc (.cells #[.int .i64 qop, .int .i64 qrd, .int .i64 qrs1, .int .i64 qrs2, .int .u32 qimm, .int .i64 qcsr] 27)) w.heap.size op rd rs1 rs2 imm csr) := (sixT_new w _ rfl _ _ _ _ _ _ _).on ((Below.refl _ _).alloc (Nat.le_refl _) _)
  have HT : Hid (SixT ((w.alloc (.cells #[.int .i64 op, .int .i64 rd, .int .i64 rs1, .int .i64 rs2, .int .u32 imm, .int .i64 csr] 27)).alloc (.cells #[.int .i64 qop, .int .i64 qrd, .int .i64 qrs1, .int .i64 qrs2, .int .u32 qimm, .int .i64 qcsr] 27)) (w.heap.size + 1) qop qrd qrs1 qrs2 qimm qcsr) := sixT_new _ _ (by simp) _ _ _ _ _ _ _
  have hW : Below w.heap.size w ((w.alloc (.cells #[.int .i64 op, .int .i64 rd, .int .i64 rs1, .int .i64 rs2, .int .u32 imm, .int .i64 csr] 27)).alloc (.cells #[.int .i64 qop, .int .i64 qrd, .int .i64 qrs1, .int .i64 qrs2, .int .u32 qimm, .int .i64 qcsr] 27)) := ((Below.refl _ _).alloc (Nat.le_refl _) _).alloc (by simp) _
  obtain ⟨rfl, rfl, rfl, rfl, rfl, rfl⟩ := heq
  go_enter Tryd.func6, Tryd.ntmps6
  go_wp2_with fail
  generalize ((w.alloc (.cells #[.int .i64 op, .int .i64 rd, .int .i64 rs1, .int .i64 rs2, .int .u32 imm, .int .i64 csr] 27)).alloc (.cells #[.int .i64 op, .int .i64 rd, .int .i64 rs1, .int .i64 rs2, .int .u32 imm, .int .i64 csr] 27)) = W at *
  refine (HTP.out op rd rs1 rs2 imm csr _ i0 i1 (FormTab.below HF.out hW) (NameTab.below HN.out hW) (powTab_below HK.out hW) HA.out).mono ?_
  rintro e w1 ⟨rfl, k1⟩
  have HS1 : Hid (SixT w1 w.heap.size op rd rs1 rs2 imm csr) := SixT.on HS.out k1
  have HT1 : Hid (SixT w1 (w.heap.size + 1) op rd rs1 rs2 imm csr) := SixT.on HT.out k1
  have hW1 : Hid (Below w.heap.size w w1) := hW.trans (k1.mono hW.size)
  clear HS HT k1 hW
  obtain ⟨c0, c1, c2, c3, c4, c5⟩ := HS1.out
  obtain ⟨x0, x1, x2, x3, x4, x5⟩ := HT1.out
  go_wp2_with fail
  refine (HTP.out op rd rs1 rs2 imm csr _ i0 i1 (FormTab.below HF.out hW1.out) (NameTab.below HN.out hW1.out) (powTab_below HK.out hW1.out) HB.out).mono ?_
  rintro e w2 ⟨rfl, k2⟩
  have HS2 : Hid (SixT w2 w.heap.size op rd rs1 rs2 imm csr) := SixT.on HS1.out k2
  have HT2 : Hid (SixT w2 (w.heap.size + 1) op rd rs1 rs2 imm csr) := SixT.on HT1.out k2
  have HB2 : Hid (Below w.heap.size w w2) := hW1.out.trans (k2.mono hW1.out.size)
  clear k2 c0 c1 c2 c3 c4 c5 x0 x1 x2 x3 x4 x5
  obtain ⟨c0, c1, c2, c3, c4, c5⟩ := HS2.out
  obtain ⟨x0, x1, x2, x3, x4, x5⟩ := HT2.out
  go_wp2_with fail
  all_goals
    refine (dawake5_any HP.out HQ.out _ (FormTab.below HF.out HB2.out) (NameTab.below HN.out HB2.out) (powTab_below HK.out HB2.out) (MatchTab.below HM.out HB2.out)).mono ?_
    rintro e w3 ⟨rfl, k3⟩
    go_wp2
    go_ret
    exact ⟨rfl, HB2.out.trans (k3.mono HB2.out.size)⟩

set_option maxHeartbeats 4000000 in
theorem apart_ne (NP : NumP) (WP : WordP) (TP : TextP) (TQ : TextQ) (op rd rs1 rs2 imm csr qop qrd qrs1 qrs2 qimm qcsr : Int) (w : World) (i0 : 0 ≤ imm) (i1 : imm < 4294967296) (j0 : 0 ≤ qimm) (j1 : qimm < 4294967296) (tf : FormTab w) (tn : NameTab w) (tp : PowTab w) (tm : MatchTab w) (ha : txB op rd rs1 rs2 imm csr = true) (hb : txB qop qrd qrs1 qrs2 qimm qcsr = true) (hne : ¬ (op = qop ∧ rd = qrd ∧ rs1 = qrs1 ∧ rs2 = qrs2 ∧ imm = qimm ∧ csr = qcsr)) :
    Calls Tryd.prog 6 #[.agg #[.int .i64 op, .int .i64 rd, .int .i64 rs1, .int .i64 rs2, .int .u32 imm, .int .i64 csr], .agg #[.int .i64 qop, .int .i64 qrd, .int .i64 qrs1, .int .i64 qrs2, .int .u32 qimm, .int .i64 qcsr]] w fun e w' => e = .returned (.bool true) ∧ Below w.heap.size w w' := by
  have HF : Hid (FormTab w) := tf
  have HN : Hid (NameTab w) := tn
  have HK : Hid (PowTab w) := tp
  have HM : Hid (MatchTab w) := tm
  have HP : Hid NumP := NP
  have HQ : Hid WordP := WP
  have HTP : Hid TextP := TP
  have HTQ : Hid TextQ := TQ
  have HA : Hid (txB op rd rs1 rs2 imm csr = true) := ha
  have HB : Hid (txB qop qrd qrs1 qrs2 qimm qcsr = true) := hb
  clear tf tn tp tm NP WP TP TQ ha hb
  have HS : Hid (SixT ((w.alloc (.cells #[.int .i64 op, .int .i64 rd, .int .i64 rs1, .int .i64 rs2, .int .u32 imm, .int .i64 csr] 27)).alloc (.cells #[.int .i64 qop, .int .i64 qrd, .int .i64 qrs1, .int .i64 qrs2, .int .u32 qimm, .int .i64 qcsr] 27)) w.heap.size op rd rs1 rs2 imm csr) := (sixT_new w _ rfl _ _ _ _ _ _ _).on ((Below.refl _ _).alloc (Nat.le_refl _) _)
  have HT : Hid (SixT ((w.alloc (.cells #[.int .i64 op, .int .i64 rd, .int .i64 rs1, .int .i64 rs2, .int .u32 imm, .int .i64 csr] 27)).alloc (.cells #[.int .i64 qop, .int .i64 qrd, .int .i64 qrs1, .int .i64 qrs2, .int .u32 qimm, .int .i64 qcsr] 27)) (w.heap.size + 1) qop qrd qrs1 qrs2 qimm qcsr) := sixT_new _ _ (by simp) _ _ _ _ _ _ _
  have hW : Below w.heap.size w ((w.alloc (.cells #[.int .i64 op, .int .i64 rd, .int .i64 rs1, .int .i64 rs2, .int .u32 imm, .int .i64 csr] 27)).alloc (.cells #[.int .i64 qop, .int .i64 qrd, .int .i64 qrs1, .int .i64 qrs2, .int .u32 qimm, .int .i64 qcsr] 27)) := ((Below.refl _ _).alloc (Nat.le_refl _) _).alloc (by simp) _
  have ht : ((bs (textL op.toNat rd rs1 rs2 imm csr)).toList == (bs (textL qop.toNat qrd qrs1 qrs2 qimm qcsr)).toList) = false := tstr_ne fun e => hne (text_one i0 i1 j0 j1 HA.out HB.out e)
  have HNE : Hid (¬ (op = qop ∧ rd = qrd ∧ rs1 = qrs1 ∧ rs2 = qrs2 ∧ imm = qimm ∧ csr = qcsr)) := hne
  clear hne
  go_enter Tryd.func6, Tryd.ntmps6
  go_wp2_with fail
  generalize ((w.alloc (.cells #[.int .i64 op, .int .i64 rd, .int .i64 rs1, .int .i64 rs2, .int .u32 imm, .int .i64 csr] 27)).alloc (.cells #[.int .i64 qop, .int .i64 qrd, .int .i64 qrs1, .int .i64 qrs2, .int .u32 qimm, .int .i64 qcsr] 27)) = W at *
  refine (HTP.out op rd rs1 rs2 imm csr _ i0 i1 (FormTab.below HF.out hW) (NameTab.below HN.out hW) (powTab_below HK.out hW) HA.out).mono ?_
  rintro e w1 ⟨rfl, k1⟩
  have HS1 : Hid (SixT w1 w.heap.size op rd rs1 rs2 imm csr) := SixT.on HS.out k1
  have HT1 : Hid (SixT w1 (w.heap.size + 1) qop qrd qrs1 qrs2 qimm qcsr) := SixT.on HT.out k1
  have hW1 : Hid (Below w.heap.size w w1) := hW.trans (k1.mono hW.size)
  clear HS HT k1 hW
  obtain ⟨c0, c1, c2, c3, c4, c5⟩ := HS1.out
  obtain ⟨x0, x1, x2, x3, x4, x5⟩ := HT1.out
  go_wp2_with fail
  refine (HTP.out qop qrd qrs1 qrs2 qimm qcsr _ j0 j1 (FormTab.below HF.out hW1.out) (NameTab.below HN.out hW1.out) (powTab_below HK.out hW1.out) HB.out).mono ?_
  rintro e w2 ⟨rfl, k2⟩
  have HS2 : Hid (SixT w2 w.heap.size op rd rs1 rs2 imm csr) := SixT.on HS1.out k2
  have HT2 : Hid (SixT w2 (w.heap.size + 1) qop qrd qrs1 qrs2 qimm qcsr) := SixT.on HT1.out k2
  have HB2 : Hid (Below w.heap.size w w2) := hW1.out.trans (k2.mono hW1.out.size)
  clear k2 c0 c1 c2 c3 c4 c5 x0 x1 x2 x3 x4 x5
  obtain ⟨c0, c1, c2, c3, c4, c5⟩ := HS2.out
  obtain ⟨x0, x1, x2, x3, x4, x5⟩ := HT2.out
  go_wp2_with fail
  all_goals
    first
    | exact absurd ⟨by assumption, by assumption, by assumption, by assumption, by assumption, by assumption⟩ HNE.out
    | (refine (dawake5_any HP.out HQ.out _ (FormTab.below HF.out HB2.out) (NameTab.below HN.out HB2.out) (powTab_below HK.out HB2.out) (MatchTab.below HM.out HB2.out)).mono ?_
       rintro e w3 ⟨rfl, k3⟩
       go_wp2
       go_ret
       exact ⟨rfl, HB2.out.trans (k3.mono HB2.out.size)⟩)

theorem disasmApart_walk (NP : NumP) (WP : WordP) (TP : TextP) (TQ : TextQ) (op rd rs1 rs2 imm csr qop qrd qrs1 qrs2 qimm qcsr : Int) (w : World) (i0 : 0 ≤ imm) (i1 : imm < 4294967296) (j0 : 0 ≤ qimm) (j1 : qimm < 4294967296) (tf : FormTab w) (tn : NameTab w) (tp : PowTab w) (tm : MatchTab w) :
    Calls Tryd.prog 6 #[.agg #[.int .i64 op, .int .i64 rd, .int .i64 rs1, .int .i64 rs2, .int .u32 imm, .int .i64 csr], .agg #[.int .i64 qop, .int .i64 qrd, .int .i64 qrs1, .int .i64 qrs2, .int .u32 qimm, .int .i64 qcsr]] w fun e w' => e = .returned (.bool true) ∧ Below w.heap.size w w' := by
  cases ha : txB op rd rs1 rs2 imm csr <;> cases hb : txB qop qrd qrs1 qrs2 qimm qcsr
  · exact apart_f NP WP TP TQ op rd rs1 rs2 imm csr qop qrd qrs1 qrs2 qimm qcsr w i0 i1 j0 j1 tf tn tp tm ha hb
  · exact apart_ft NP WP TP TQ op rd rs1 rs2 imm csr qop qrd qrs1 qrs2 qimm qcsr w i0 i1 j0 j1 tf tn tp tm ha hb
  · exact apart_tf NP WP TP TQ op rd rs1 rs2 imm csr qop qrd qrs1 qrs2 qimm qcsr w i0 i1 j0 j1 tf tn tp tm ha hb
  · by_cases h : op = qop ∧ rd = qrd ∧ rs1 = qrs1 ∧ rs2 = qrs2 ∧ imm = qimm ∧ csr = qcsr
    · exact apart_eq NP WP TP TQ op rd rs1 rs2 imm csr qop qrd qrs1 qrs2 qimm qcsr w i0 i1 j0 j1 tf tn tp tm ha hb h
    · exact apart_ne NP WP TP TQ op rd rs1 rs2 imm csr qop qrd qrs1 qrs2 qimm qcsr w i0 i1 j0 j1 tf tn tp tm ha hb h
end Go.Proofs.YtakomdopeadcjaaDoor
