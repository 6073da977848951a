/- Layer 4: what Encode answers. -/
import Derived.Test.YtlceglloikamnaaDoorEncPut
import Derived.Test.YtlceglloikamnaaDoorInstWhole
namespace Go.Proofs.YtlceglloikamnaaDoor
open Go.RowKit
set_option linter.unusedVariables false

/-- Six cells of block B. -/
def SixC (w : World) (B : Nat) (a b c d e f : Int) : Prop := w.cell? ⟨B, 0, none⟩ = some (.int .i64 a) ∧ w.cell? ⟨B, 1, none⟩ = some (.int .i64 b) ∧ w.cell? ⟨B, 2, none⟩ = some (.int .i64 c) ∧ w.cell? ⟨B, 3, none⟩ = some (.int .i64 d) ∧ w.cell? ⟨B, 4, none⟩ = some (.int .u32 e) ∧ w.cell? ⟨B, 5, none⟩ = some (.int .i64 f)
theorem sixC_new (w : World) (B : Nat) (hB : w.heap.size = B) (t : TypeId) (a b c d e f : Int) : SixC (w.alloc (.cells #[.int .i64 a, .int .i64 b, .int .i64 c, .int .i64 d, .int .u32 e, .int .i64 f] t)) B a b c d e f := by
  subst hB
  refine ⟨?_, ?_, ?_, ?_, ?_, ?_⟩ <;> rw [World.cell?_alloc_at _ _ _ _ rfl] <;> rfl
theorem ecell_on {W w1 : World} {b o : Nat} {p : Option Nat} {v : Value} (hb : Below W.heap.size W w1) (h : W.cell? ⟨b, o, p⟩ = some v) : w1.cell? ⟨b, o, p⟩ = some v := by
  rw [hb.cell (p := ⟨b, o, p⟩) (lt_of_cell h)]; exact h
theorem SixC.on {W w1 : World} {B : Nat} {a b c d e f : Int} (h : SixC W B a b c d e f) (hb : Below W.heap.size W w1) : SixC w1 B a b c d e f := by
  obtain ⟨h0, h1, h2, h3, h4, h5⟩ := h
  exact ⟨ecell_on hb h0, ecell_on hb h1, ecell_on hb h2, ecell_on hb h3, ecell_on hb h4, ecell_on hb h5⟩
theorem SixC.but {W w1 : World} {B C : Nat} {a b c d e f : Int} (h : SixC W B a b c d e f) (hb : But C W w1) (hn : B ≠ C) : SixC w1 B a b c d e f := by
  obtain ⟨h0, h1, h2, h3, h4, h5⟩ := h
  exact ⟨hb.cell hn h0, hb.cell hn h1, hb.cell hn h2, hb.cell hn h3, hb.cell hn h4, hb.cell hn h5⟩

theorem one_new (w : World) (B : Nat) (hB : w.heap.size = B) (x : Int) : One (w.alloc (.cells #[.int .u32 x] 22)) B x := by
  subst hB
  show (w.heap.push _)[w.heap.size]? = _
  simp
theorem One.on {W w1 : World} {B : Nat} {x : Int} (h : One W B x) (hb : Below W.heap.size W w1) : One w1 B x := (hb.block B (lt_of_block h)).trans h

theorem eneb {k : Nat} (h : k ≠ 0) : ((k : Int) == 0) = false := by simp; omega

set_option maxHeartbeats 1000000 in
theorem enc_bad (op rd rs1 rs2 imm csr : Int) (w : World) (h : ¬ (1 ≤ op ∧ op < 58)) :
    Calls Tryd.prog 7 #[.agg #[.int .i64 op, .int .i64 rd, .int .i64 rs1, .int .i64 rs2, .int .u32 imm, .int .i64 csr]] w fun e w' => e = .returned (.tuple #[.int .u32 0, .int .i64 9]) ∧ Below w.heap.size w w' := by
  go_enter Tryd.func7, Tryd.ntmps7
  go_wp2_with (go_at_call 8; refine (ematch_no _ _ h).mono ?_; rintro e w' ⟨rfl, rfl⟩)
  go_ret2
  exact ⟨rfl, ((Below.refl _ _).alloc (Nat.le_refl _) _).alloc (by simp) _⟩

set_option maxHeartbeats 1000000 in
theorem enc_no (k : Nat) (rd rs1 rs2 imm csr : Int) (w : World) (hk : k < 58) (hk0 : k ≠ 0) (i0 : 0 ≤ imm) (i1 : imm < 4294967296) (hr : rightOf (formZ k) rd rs1 rs2 imm csr = false) (tf : FormTab w) (tm : EncTab w) :
    Calls Tryd.prog 7 #[.agg #[.int .i64 k, .int .i64 rd, .int .i64 rs1, .int .i64 rs2, .int .u32 imm, .int .i64 csr]] w fun e w' => e = .returned (.tuple #[.int .u32 0, .int .i64 9]) ∧ Below w.heap.size w w' := by
  have HF : Hid (FormTab w) := tf
  have HM : Hid (EncTab w) := tm
  have HR : Hid (rightOf (formZ k) rd rs1 rs2 imm csr = false) := hr
  clear tf tm hr
  generalize hm : matchL.getD (k - 1) 0 = m
  have HL : Hid (matchL.getD (k - 1) 0 = m) := hm
  clear hm
  go_enter Tryd.func7, Tryd.ntmps7
  go_wp2_with (first
    | (go_at_call 8; refine (ematch_yes k m HL.out hk hk0 _ (EncTab.below HM.out ((Below.refl _ _).alloc (Nat.le_refl _) _))).mono ?_; rintro e w' ⟨rfl, hw⟩; subst hw)
    | (go_at_call 19; refine (iright_yes k _ _ _ _ _ _ hk i0 i1 (FormTab.below HF.out (((Below.refl _ _).alloc (Nat.le_refl _) _).alloc (by simp) _))).mono ?_; rw [HR.out]; rintro e w1 ⟨rfl, hb⟩))
  go_ret2
  refine ⟨rfl, Below.trans (((Below.refl _ _).alloc (Nat.le_refl _) _).alloc (by simp) _) (hb.mono ?_)⟩
  simp
  omega

set_option maxHeartbeats 4000000 in
theorem enc_yes (k : Nat) (rd rs1 rs2 imm csr : Int) (w : World) (hk : k < 58) (hk0 : k ≠ 0) (i0 : 0 ≤ imm) (i1 : imm < 4294967296) (hr : rightOf (formZ k) rd rs1 rs2 imm csr = true) (tf : FormTab w) (tm : EncTab w) :
    Calls Tryd.prog 7 #[.agg #[.int .i64 k, .int .i64 rd, .int .i64 rs1, .int .i64 rs2, .int .u32 imm, .int .i64 csr]] w fun e w' => e = .returned (.tuple #[.int .u32 (encOf k rd rs1 rs2 imm csr), .int .i64 0]) ∧ Below w.heap.size w w' := by
  have HF : Hid (FormTab w) := tf
  have HM : Hid (EncTab w) := tm
  have HR : Hid (rightOf (formZ k) rd rs1 rs2 imm csr = true) := hr
  generalize hm : matchL.getD (k - 1) 0 = m
  have HP : Hid _ := enc_puts k hk hk0 rd rs1 rs2 imm csr m hm hr
  have HL : Hid (matchL.getD (k - 1) 0 = m) := hm
  clear hm tf tm hr
  obtain ⟨⟨m0, m1⟩, ⟨a0, a1⟩, ⟨b0, b1⟩, ⟨d0, d1⟩, ⟨e0, e1⟩, _⟩ := HP.out
  have HA : Hid (rd % 32 = 0 ∨ m / 128 % 32 = 0) := by
    obtain ⟨_, _, _, _, _, p, _⟩ := HP.out
    show _ ∨ _
    omega
  have HB : Hid (rs1 % 32 = 0 ∨ (m + rd * 128) / 32768 % 32 = 0) := by
    obtain ⟨_, _, _, _, _, _, p, _⟩ := HP.out
    show _ ∨ _
    omega
  have HC : Hid (rs2 % 32 = 0 ∨ (m + rd * 128 + rs1 * 32768) / 1048576 % 32 = 0) := by
    obtain ⟨_, _, _, _, _, _, _, p, _⟩ := HP.out
    show _ ∨ _
    omega
  have HD : Hid (csr % 4096 = 0 ∨ (m + rd * 128 + rs1 * 32768 + rs2 * 1048576) / 1048576 % 4096 = 0) := by
    obtain ⟨_, _, _, _, _, _, _, _, p, _⟩ := HP.out
    show _ ∨ _
    omega
  have HE : Hid (Free (formZ k) (m + rd * 128 + rs1 * 32768 + rs2 * 1048576 + csr * 1048576)) := HP.out.2.2.2.2.2.2.2.2.2
  clear HP
  have r1 : rd % 32 = rd := by omega
  have r2 : rs1 % 32 = rs1 := by omega
  have r3 : rs2 % 32 = rs2 := by omega
  have r4 : csr % 4096 = csr := by omega
  have R : Hid (rd % 32 = rd ∧ rs1 % 32 = rs1 ∧ rs2 % 32 = rs2 ∧ csr % 4096 = csr) := ⟨r1, r2, r3, r4⟩
  clear r1 r2 r3 r4
  have hS : SixC ((w.alloc (.cells #[.int .i64 k, .int .i64 rd, .int .i64 rs1, .int .i64 rs2, .int .u32 imm, .int .i64 csr] 24)).alloc (.cells #[.int .u32 m] 22)) w.heap.size k rd rs1 rs2 imm csr := (sixC_new w _ rfl _ _ _ _ _ _ _).on ((Below.refl _ _).alloc (Nat.le_refl _) _)
  have hO : One ((w.alloc (.cells #[.int .i64 k, .int .i64 rd, .int .i64 rs1, .int .i64 rs2, .int .u32 imm, .int .i64 csr] 24)).alloc (.cells #[.int .u32 m] 22)) (w.heap.size + 1) m := one_new _ _ (by simp) _
  have hW : Below w.heap.size w ((w.alloc (.cells #[.int .i64 k, .int .i64 rd, .int .i64 rs1, .int .i64 rs2, .int .u32 imm, .int .i64 csr] 24)).alloc (.cells #[.int .u32 m] 22)) := ((Below.refl _ _).alloc (Nat.le_refl _) _).alloc (by simp) _
  have HS : Hid (SixC ((w.alloc (.cells #[.int .i64 k, .int .i64 rd, .int .i64 rs1, .int .i64 rs2, .int .u32 imm, .int .i64 csr] 24)).alloc (.cells #[.int .u32 m] 22)) w.heap.size k rd rs1 rs2 imm csr) := hS
  clear hS
  go_enter Tryd.func7, Tryd.ntmps7
  go_wp2_with (first
    | (go_at_call 8; refine (ematch_yes k m HL.out hk hk0 _ (EncTab.below HM.out ((Below.refl _ _).alloc (Nat.le_refl _) _))).mono ?_; rintro e w' ⟨rfl, hw⟩; subst hw)
    | (go_at_call 19; fail))
  generalize (w.alloc (.cells #[.int .i64 k, .int .i64 rd, .int .i64 rs1, .int .i64 rs2, .int .u32 imm, .int .i64 csr] 24)).alloc (.cells #[.int .u32 m] 22) = W at *
  refine (iright_yes k _ _ _ _ _ _ hk i0 i1 (FormTab.below HF.out hW)).mono ?_
  rw [HR.out]
  rintro e w1 ⟨rfl, hb⟩
  have hO1 : Hid (One w1 (w.heap.size + 1) m) := hO.on hb
  have hS1 := HS.out.on hb
  have hW1 : Hid (Below w.heap.size w w1) := hW.trans (hb.mono hW.size)
  clear hO HS hb hW
  have HS1 : Hid (SixC w1 w.heap.size k rd rs1 rs2 imm csr) := hS1
  obtain ⟨c0, c1, c2, c3, c4, c5⟩ := hS1
  have hN : w.heap.size ≠ w.heap.size + 1 := by omega
  go_wp2_with fail
  refine (clo_any 11 7 32 128 rd (m) _ _ hO1.out m0 m1 a0 (by omega) (by omega) (by omega) (by omega) rfl rfl HA.out).mono ?_
  rintro e w2 ⟨rfl, o2, bt2, y2, z2⟩
  rw [R.out.1] at o2 y2 z2
  have O2 : Hid (One w2 (w.heap.size + 1) (m + rd * 128)) := o2
  have hW2 : Hid (Below w.heap.size w w2) := Below.trans hW1.out (bt2.1.mono (by omega))
  have HS2 : Hid (SixC w2 w.heap.size k rd rs1 rs2 imm csr) := HS1.out.but bt2 hN
  clear c0 c1 c2 c3 c4 c5 o2 bt2 HS1
  obtain ⟨c0, c1, c2, c3, c4, c5⟩ := HS2.out
  go_wp2_with fail
  refine (clo_any 19 15 32 32768 rs1 (m + rd * 128) _ _ O2.out y2 z2 b0 (by omega) (by omega) (by omega) (by omega) rfl rfl HB.out).mono ?_
  rintro e w3 ⟨rfl, o3, bt3, y3, z3⟩
  rw [R.out.2.1] at o3 y3 z3
  have O3 : Hid (One w3 (w.heap.size + 1) (m + rd * 128 + rs1 * 32768)) := o3
  have hW3 : Hid (Below w.heap.size w w3) := Below.trans hW2.out (bt3.1.mono (by omega))
  have HS3 : Hid (SixC w3 w.heap.size k rd rs1 rs2 imm csr) := HS2.out.but bt3 hN
  clear c0 c1 c2 c3 c4 c5 o3 bt3 HS2
  obtain ⟨c0, c1, c2, c3, c4, c5⟩ := HS3.out
  go_wp2_with fail
  refine (clo_any 24 20 32 1048576 rs2 (m + rd * 128 + rs1 * 32768) _ _ O3.out y3 z3 d0 (by omega) (by omega) (by omega) (by omega) rfl rfl HC.out).mono ?_
  rintro e w4 ⟨rfl, o4, bt4, y4, z4⟩
  rw [R.out.2.2.1] at o4 y4 z4
  have O4 : Hid (One w4 (w.heap.size + 1) (m + rd * 128 + rs1 * 32768 + rs2 * 1048576)) := o4
  have hW4 : Hid (Below w.heap.size w w4) := Below.trans hW3.out (bt4.1.mono (by omega))
  have HS4 : Hid (SixC w4 w.heap.size k rd rs1 rs2 imm csr) := HS3.out.but bt4 hN
  clear c0 c1 c2 c3 c4 c5 o4 bt4 HS3
  obtain ⟨c0, c1, c2, c3, c4, c5⟩ := HS4.out
  go_wp2_with fail
  refine (clo_any 31 20 4096 1048576 csr (m + rd * 128 + rs1 * 32768 + rs2 * 1048576) _ _ O4.out y4 z4 e0 (by omega) (by omega) (by omega) (by omega) rfl rfl HD.out).mono ?_
  rintro e w5 ⟨rfl, o5, bt5, y5, z5⟩
  rw [R.out.2.2.2] at o5 y5 z5
  have O5 : Hid (One w5 (w.heap.size + 1) (m + rd * 128 + rs1 * 32768 + rs2 * 1048576 + csr * 1048576)) := o5
  have hW5 : Hid (Below w.heap.size w w5) := Below.trans hW4.out (bt5.1.mono (by omega))
  have HS5 : Hid (SixC w5 w.heap.size k rd rs1 rs2 imm csr) := HS4.out.but bt5 hN
  clear c0 c1 c2 c3 c4 c5 o5 bt5 HS4
  obtain ⟨c0, c1, c2, c3, c4, c5⟩ := HS5.out
  go_wp2_with fail
  refine (putImm_any k _ rfl hk rd rs1 rs2 imm csr (m + rd * 128 + rs1 * 32768 + rs2 * 1048576 + csr * 1048576) _ _ O5.out y5 z5 i0 i1 HE.out (FormTab.below HF.out hW5.out)).mono ?_
  rintro e w6 ⟨rfl, o6, b6⟩
  have cW := cell_of_one o6
  have hW6 : Hid (Below w.heap.size w w6) := Below.trans hW5.out (b6.mono (by omega))
  clear o6 b6
  go_wp2
  go_ret2
  refine ⟨?_, hW6.out⟩
  unfold encOf headOf
  rw [HL.out]
  rfl
end Go.Proofs.YtlceglloikamnaaDoor
