/- Layer 5: the document's own Text, form 4. -/
import Derived.Test.YtakomdopeadcjaaDoorDisText
namespace Go.Proofs.YtakomdopeadcjaaDoor
open Go.RowKit
set_option linter.unusedVariables false

theorem txt_4 (k : Nat) (hz : formZ k = 4) (rd rs1 rs2 imm csr : Int) : nameS k ++ (⟨#[32]⟩ : ByteArray) ++ bs (120 :: numL rs1) ++ (⟨#[44, 32]⟩ : ByteArray) ++ bs (120 :: numL rs2) ++ (⟨#[44, 32]⟩ : ByteArray) ++ bs (numL (signedOf imm)) = bs (textL k rd rs1 rs2 imm csr) := by
  show bs (nameL.getD k []) ++ bs [32] ++ bs (120 :: numL rs1) ++ bs [44, 32] ++ bs (120 :: numL rs2) ++ bs [44, 32] ++ bs (numL (signedOf imm)) = _
  rw [bs_app, bs_app, bs_app, bs_app, bs_app, bs_app]
  unfold textL restL
  rw [hz]
  simp

set_option maxRecDepth 100000 in
set_option maxHeartbeats 2000000 in
theorem rtext_4 (k : Nat) (hz : formZ k = 4) (rd rs1 rs2 imm csr : Int) (w : World) (hk : k < 58) (hk0 : k ≠ 0) (i0 : 0 ≤ imm) (i1 : imm < 4294967296) (hr : rightOf (formZ k) rd rs1 rs2 imm csr = true) :
    Calls Tryd.prog 13 #[.agg #[.int .i64 k, .int .i64 rd, .int .i64 rs1, .int .i64 rs2, .int .u32 imm, .int .i64 csr]] w fun e w' => e = .returned (.tuple #[.string (bs (textL k rd rs1 rs2 imm csr)), .bool true]) ∧ Below w.heap.size w w' := by
  have HTX : Hid (nameS k ++ (⟨#[32]⟩ : ByteArray) ++ bs (120 :: numL rs1) ++ (⟨#[44, 32]⟩ : ByteArray) ++ bs (120 :: numL rs2) ++ (⟨#[44, 32]⟩ : ByteArray) ++ bs (numL (signedOf imm)) = bs (textL k rd rs1 rs2 imm csr)) := txt_4 k hz rd rs1 rs2 imm csr
  have hn := tneb hk0
  have HR : Hid (rightOf (formZ k) rd rs1 rs2 imm csr = true) := hr
  have HI : Hid _ := right_ints _ _ _ _ _ _ hr
  have HZ : Hid (formZ k = 4) := hz
  obtain ⟨⟨a0, a1⟩, ⟨b0, b1⟩, ⟨d0, d1⟩, ⟨e0, e1⟩⟩ := right_ints _ _ _ _ _ _ hr
  have hsg := signedOf_bd imm i0 i1
  have hs := nameS_size k hk
  have hs_0 := regS_size rs1
  have hs_1 := regS_size rs2
  have hn_0 := numS_size (signedOf imm)
  generalize bs (textL k rd rs1 rs2 imm csr) = TX at *
  have HS : Hid (SixT (w.alloc (.cells #[.int .i64 k, .int .i64 rd, .int .i64 rs1, .int .i64 rs2, .int .u32 imm, .int .i64 csr] 27)) w.heap.size k rd rs1 rs2 imm csr) := sixT_new w _ rfl _ _ _ _ _ _ _
  have hW : Below w.heap.size w (w.alloc (.cells #[.int .i64 k, .int .i64 rd, .int .i64 rs1, .int .i64 rs2, .int .u32 imm, .int .i64 csr] 27)) := (Below.refl _ _).alloc (Nat.le_refl _) _
  have g0 : (0 : Int) ≤ (k : Int) := by omega
  have g1 : (k : Int) < 58 := by omega
  clear hr hz HI
  go_enter Tryd.func13, Tryd.ntmps13
  go_wp2_with fail
  generalize w.alloc (.cells #[.int .i64 k, .int .i64 rd, .int .i64 rs1, .int .i64 rs2, .int .u32 imm, .int .i64 csr] 27) = W at *
  refine (rright_yes k rd rs1 rs2 imm csr _ hk i0 i1).mono ?_
  rw [HR.out]
  rintro e w1 ⟨rfl, hb⟩
  have HS1 : Hid (SixT w1 w.heap.size k rd rs1 rs2 imm csr) := SixT.on HS.out hb
  have hW1 : Hid (Below w.heap.size w w1) := hW.trans (hb.mono hW.size)
  clear HS hb hW
  obtain ⟨c0, c1, c2, c3, c4, c5⟩ := HS1.out
  go_wp2_with fail
  go_region_with (first | (go_at_call 22; refine (rnames_any _).mono ?_; rintro e w3 ⟨g, rfl, hg, hcs, hb3⟩; have hc := hcs k hk; clear hcs; have hW3 : Hid (Below w.heap.size w w3) := Below.trans hW1.out.drew (hb3.mono hW1.out.size); have HS3 : Hid (SixT w3 w.heap.size k rd rs1 rs2 imm csr) := SixT.on (SixT.on HS1.out ((Below.refl w1.heap.size w1).drew)) hb3; have k0 := HS3.out.1; clear hb3))
  all_goals (clear k0 hg; revert HS3 hW3 hc; revert w3; revert g)
  refine ?key
  rotate_left
  exact ?key
  intro g w3 hc hW3 HS3
  clear c0 c1 c2 c3 c4 c5 HS1 hW1 hn g0 g1
  obtain ⟨c0, c1, c2, c3, c4, c5⟩ := HS3.out
  go_wp2_with (first
    | (go_at_call 23; refine (rsigned_any imm _ i0 i1).mono ?_; rintro e w' ⟨rfl, hw⟩; subst hw)
    | (go_at_call 8; refine (rnum_any _ _ ?_ ?_).mono ?_; omega; omega; rintro e w' ⟨rfl, hw⟩; subst hw)
    | (go_at_call 24; refine (rform_any k hk _).mono ?_; rw [HZ.out]; rintro e w' ⟨rfl, hw⟩; subst hw)
    | (go_at_call 10; refine (rreg_any _ _ ?_ ?_).mono ?_; omega; omega; rintro e w' ⟨rfl, hw⟩; subst hw))
  go_quiet ((first | (go_at_call 10; exact Calls.quiet_of_same (rreg_any _ _ (by omega) (by omega))) | (go_at_call 8; exact Calls.quiet_of_same (rnum_any _ _ (by omega) (by omega)))))
  go_wp2
  go_ret2
  exact ⟨ret_text HTX.out, tbelow_dn hW3.out _⟩
end Go.Proofs.YtakomdopeadcjaaDoor
