/- My texts EncEncode, DecPat, EncRef, EncRef0, EncRef1, EncRef2, EncRef3, EncRef4, EncRef5, EncRef6, EncRef7, EncRef8, EncRef9, EncDigs, bound into one. -/
import Derived.Test.YthgolbmngjdbeaaGreatDoorB5
import Derived.Test.YthgolbmngjdbeaaGreatDoorB1
import Derived.Deep.RegionHeld3
import Derived.Deep.RegionWith
import Derived.Test.YthgolbmngjdbeaaGreatDoorB2
/- Layer 4: what Encode answers. -/
namespace Go.Proofs.YthgolbmngjdbeaaGreatDoor
open Go.RowKit
set_option linter.unusedVariables false

/-- Six cells of block B. -/
def SixC (w : World) (B : Nat) (a b c d e f : Int) : Prop := w.cell? ⟨B, 0, none⟩ = some (.int .i64 a) ∧ w.cell? ⟨B, 1, none⟩ = some (.int .i64 b) ∧ w.cell? ⟨B, 2, none⟩ = some (.int .i64 c) ∧ w.cell? ⟨B, 3, none⟩ = some (.int .i64 d) ∧ w.cell? ⟨B, 4, none⟩ = some (.int .u32 e) ∧ w.cell? ⟨B, 5, none⟩ = some (.int .i64 f)
theorem sixC_new (w : World) (B : Nat) (hB : w.heap.size = B) (t : TypeId) (a b c d e f : Int) : SixC (w.alloc (.cells #[.int .i64 a, .int .i64 b, .int .i64 c, .int .i64 d, .int .u32 e, .int .i64 f] t)) B a b c d e f := by
  subst hB
  refine ⟨?_, ?_, ?_, ?_, ?_, ?_⟩ <;> rw [World.cell?_alloc_at _ _ _ _ rfl] <;> rfl
theorem ecell_on {W w1 : World} {b o : Nat} {p : Option Nat} {v : Value} (hb : Below W.heap.size W w1) (h : W.cell? ⟨b, o, p⟩ = some v) : w1.cell? ⟨b, o, p⟩ = some v := by
  rw [hb.cell (p := ⟨b, o, p⟩) (lt_of_cell h)]; exact h
theorem SixC.on {W w1 : World} {B : Nat} {a b c d e f : Int} (h : SixC W B a b c d e f) (hb : Below W.heap.size W w1) : SixC w1 B a b c d e f := by
  obtain ⟨h0, h1, h2, h3, h4, h5⟩ := h
  exact ⟨ecell_on hb h0, ecell_on hb h1, ecell_on hb h2, ecell_on hb h3, ecell_on hb h4, ecell_on hb h5⟩
theorem SixC.but {W w1 : World} {B C : Nat} {a b c d e f : Int} (h : SixC W B a b c d e f) (hb : But C W w1) (hn : B ≠ C) : SixC w1 B a b c d e f := by
  obtain ⟨h0, h1, h2, h3, h4, h5⟩ := h
  exact ⟨hb.cell hn h0, hb.cell hn h1, hb.cell hn h2, hb.cell hn h3, hb.cell hn h4, hb.cell hn h5⟩

theorem one_new (w : World) (B : Nat) (hB : w.heap.size = B) (x : Int) : One (w.alloc (.cells #[.int .u32 x] 27)) B x := by
  subst hB
  show (w.heap.push _)[w.heap.size]? = _
  simp
theorem One.on {W w1 : World} {B : Nat} {x : Int} (h : One W B x) (hb : Below W.heap.size W w1) : One w1 B x := (hb.block B (lt_of_block h)).trans h

theorem eneb {k : Nat} (h : k ≠ 0) : ((k : Int) == 0) = false := by simp; omega

set_option maxHeartbeats 1000000 in
theorem enc_bad (op rd rs1 rs2 imm csr : Int) (w : World) (h : ¬ (1 ≤ op ∧ op < 58)) :
    Calls Tryz.prog 53 #[.agg #[.int .i64 op, .int .i64 rd, .int .i64 rs1, .int .i64 rs2, .int .u32 imm, .int .i64 csr]] w fun e w' => e = .returned (.tuple #[.int .u32 0, .int .i64 9]) ∧ Below w.heap.size w w' := by
  go_enter Tryz.func53, Tryz.ntmps53
  go_wp2_with (go_at_call 79; refine (ematch_no _ _ h).mono ?_; rintro e w' ⟨rfl, rfl⟩)
  go_ret2
  exact ⟨rfl, ((Below.refl _ _).alloc (Nat.le_refl _) _).alloc (by simp) _⟩

set_option maxHeartbeats 1000000 in
theorem enc_no (k : Nat) (rd rs1 rs2 imm csr : Int) (w : World) (hk : k < 58) (hk0 : k ≠ 0) (i0 : 0 ≤ imm) (i1 : imm < 4294967296) (hr : rightOf (formZ k) rd rs1 rs2 imm csr = false) (tf : FormTab w) (tm : EncTab w) :
    Calls Tryz.prog 53 #[.agg #[.int .i64 k, .int .i64 rd, .int .i64 rs1, .int .i64 rs2, .int .u32 imm, .int .i64 csr]] w fun e w' => e = .returned (.tuple #[.int .u32 0, .int .i64 9]) ∧ Below w.heap.size w w' := by
  have HF : Hid (FormTab w) := tf
  have HM : Hid (EncTab w) := tm
  have HR : Hid (rightOf (formZ k) rd rs1 rs2 imm csr = false) := hr
  clear tf tm hr
  generalize hm : matchL.getD (k - 1) 0 = m
  have HL : Hid (matchL.getD (k - 1) 0 = m) := hm
  clear hm
  go_enter Tryz.func53, Tryz.ntmps53
  go_wp2_with (first
    | (go_at_call 79; refine (ematch_yes k m HL.out hk hk0 _ (EncTab.below HM.out ((Below.refl _ _).alloc (Nat.le_refl _) _))).mono ?_; rintro e w' ⟨rfl, hw⟩; subst hw)
    | (go_at_call 19; refine (iright_yes k _ _ _ _ _ _ hk i0 i1 (FormTab.below HF.out (((Below.refl _ _).alloc (Nat.le_refl _) _).alloc (by simp) _))).mono ?_; rw [HR.out]; rintro e w1 ⟨rfl, hb⟩))
  go_ret2
  refine ⟨rfl, Below.trans (((Below.refl _ _).alloc (Nat.le_refl _) _).alloc (by simp) _) (hb.mono ?_)⟩
  simp
  omega

set_option maxHeartbeats 4000000 in
theorem enc_yes (k : Nat) (rd rs1 rs2 imm csr : Int) (w : World) (hk : k < 58) (hk0 : k ≠ 0) (i0 : 0 ≤ imm) (i1 : imm < 4294967296) (hr : rightOf (formZ k) rd rs1 rs2 imm csr = true) (tf : FormTab w) (tm : EncTab w) :
    Calls Tryz.prog 53 #[.agg #[.int .i64 k, .int .i64 rd, .int .i64 rs1, .int .i64 rs2, .int .u32 imm, .int .i64 csr]] w fun e w' => e = .returned (.tuple #[.int .u32 (encOf k rd rs1 rs2 imm csr), .int .i64 0]) ∧ Below w.heap.size w w' := by
  have HF : Hid (FormTab w) := tf
  have HM : Hid (EncTab w) := tm
  have HR : Hid (rightOf (formZ k) rd rs1 rs2 imm csr = true) := hr
  generalize hm : matchL.getD (k - 1) 0 = m
  have HP : Hid _ := enc_puts k hk hk0 rd rs1 rs2 imm csr m hm hr
  have HL : Hid (matchL.getD (k - 1) 0 = m) := hm
  clear hm tf tm hr
  obtain ⟨⟨m0, m1⟩, ⟨a0, a1⟩, ⟨b0, b1⟩, ⟨d0, d1⟩, ⟨e0, e1⟩, _⟩ := HP.out
  have HA : Hid (rd % 32 = 0 ∨ m / 128 % 32 = 0) := by
    obtain ⟨_, _, _, _, _, p, _⟩ := HP.out
    show _ ∨ _
    omega
  have HB : Hid (rs1 % 32 = 0 ∨ (m + rd * 128) / 32768 % 32 = 0) := by
    obtain ⟨_, _, _, _, _, _, p, _⟩ := HP.out
    show _ ∨ _
    omega
  have HC : Hid (rs2 % 32 = 0 ∨ (m + rd * 128 + rs1 * 32768) / 1048576 % 32 = 0) := by
    obtain ⟨_, _, _, _, _, _, _, p, _⟩ := HP.out
    show _ ∨ _
    omega
  have HD : Hid (csr % 4096 = 0 ∨ (m + rd * 128 + rs1 * 32768 + rs2 * 1048576) / 1048576 % 4096 = 0) := by
    obtain ⟨_, _, _, _, _, _, _, _, p, _⟩ := HP.out
    show _ ∨ _
    omega
  have HE : Hid (Free (formZ k) (m + rd * 128 + rs1 * 32768 + rs2 * 1048576 + csr * 1048576)) := HP.out.2.2.2.2.2.2.2.2.2
  clear HP
  have r1 : rd % 32 = rd := by omega
  have r2 : rs1 % 32 = rs1 := by omega
  have r3 : rs2 % 32 = rs2 := by omega
  have r4 : csr % 4096 = csr := by omega
  have R : Hid (rd % 32 = rd ∧ rs1 % 32 = rs1 ∧ rs2 % 32 = rs2 ∧ csr % 4096 = csr) := ⟨r1, r2, r3, r4⟩
  clear r1 r2 r3 r4
  have hS : SixC ((w.alloc (.cells #[.int .i64 k, .int .i64 rd, .int .i64 rs1, .int .i64 rs2, .int .u32 imm, .int .i64 csr] 30)).alloc (.cells #[.int .u32 m] 27)) w.heap.size k rd rs1 rs2 imm csr := (sixC_new w _ rfl _ _ _ _ _ _ _).on ((Below.refl _ _).alloc (Nat.le_refl _) _)
  have hO : One ((w.alloc (.cells #[.int .i64 k, .int .i64 rd, .int .i64 rs1, .int .i64 rs2, .int .u32 imm, .int .i64 csr] 30)).alloc (.cells #[.int .u32 m] 27)) (w.heap.size + 1) m := one_new _ _ (by simp) _
  have hW : Below w.heap.size w ((w.alloc (.cells #[.int .i64 k, .int .i64 rd, .int .i64 rs1, .int .i64 rs2, .int .u32 imm, .int .i64 csr] 30)).alloc (.cells #[.int .u32 m] 27)) := ((Below.refl _ _).alloc (Nat.le_refl _) _).alloc (by simp) _
  have HS : Hid (SixC ((w.alloc (.cells #[.int .i64 k, .int .i64 rd, .int .i64 rs1, .int .i64 rs2, .int .u32 imm, .int .i64 csr] 30)).alloc (.cells #[.int .u32 m] 27)) w.heap.size k rd rs1 rs2 imm csr) := hS
  clear hS
  go_enter Tryz.func53, Tryz.ntmps53
  go_wp2_with (first
    | (go_at_call 79; refine (ematch_yes k m HL.out hk hk0 _ (EncTab.below HM.out ((Below.refl _ _).alloc (Nat.le_refl _) _))).mono ?_; rintro e w' ⟨rfl, hw⟩; subst hw)
    | (go_at_call 19; fail))
  generalize (w.alloc (.cells #[.int .i64 k, .int .i64 rd, .int .i64 rs1, .int .i64 rs2, .int .u32 imm, .int .i64 csr] 30)).alloc (.cells #[.int .u32 m] 27) = W at *
  refine (iright_yes k _ _ _ _ _ _ hk i0 i1 (FormTab.below HF.out hW)).mono ?_
  rw [HR.out]
  rintro e w1 ⟨rfl, hb⟩
  have hO1 : Hid (One w1 (w.heap.size + 1) m) := hO.on hb
  have hS1 := HS.out.on hb
  have hW1 : Hid (Below w.heap.size w w1) := hW.trans (hb.mono hW.size)
  clear hO HS hb hW
  have HS1 : Hid (SixC w1 w.heap.size k rd rs1 rs2 imm csr) := hS1
  obtain ⟨c0, c1, c2, c3, c4, c5⟩ := hS1
  have hN : w.heap.size ≠ w.heap.size + 1 := by omega
  go_wp2_with fail
  refine (clo_any 11 7 32 128 rd (m) _ _ hO1.out m0 m1 a0 (by omega) (by omega) (by omega) (by omega) rfl rfl HA.out).mono ?_
  rintro e w2 ⟨rfl, o2, bt2, y2, z2⟩
  rw [R.out.1] at o2 y2 z2
  have O2 : Hid (One w2 (w.heap.size + 1) (m + rd * 128)) := o2
  have hW2 : Hid (Below w.heap.size w w2) := Below.trans hW1.out (bt2.1.mono (by omega))
  have HS2 : Hid (SixC w2 w.heap.size k rd rs1 rs2 imm csr) := HS1.out.but bt2 hN
  clear c0 c1 c2 c3 c4 c5 o2 bt2 HS1
  obtain ⟨c0, c1, c2, c3, c4, c5⟩ := HS2.out
  go_wp2_with fail
  refine (clo_any 19 15 32 32768 rs1 (m + rd * 128) _ _ O2.out y2 z2 b0 (by omega) (by omega) (by omega) (by omega) rfl rfl HB.out).mono ?_
  rintro e w3 ⟨rfl, o3, bt3, y3, z3⟩
  rw [R.out.2.1] at o3 y3 z3
  have O3 : Hid (One w3 (w.heap.size + 1) (m + rd * 128 + rs1 * 32768)) := o3
  have hW3 : Hid (Below w.heap.size w w3) := Below.trans hW2.out (bt3.1.mono (by omega))
  have HS3 : Hid (SixC w3 w.heap.size k rd rs1 rs2 imm csr) := HS2.out.but bt3 hN
  clear c0 c1 c2 c3 c4 c5 o3 bt3 HS2
  obtain ⟨c0, c1, c2, c3, c4, c5⟩ := HS3.out
  go_wp2_with fail
  refine (clo_any 24 20 32 1048576 rs2 (m + rd * 128 + rs1 * 32768) _ _ O3.out y3 z3 d0 (by omega) (by omega) (by omega) (by omega) rfl rfl HC.out).mono ?_
  rintro e w4 ⟨rfl, o4, bt4, y4, z4⟩
  rw [R.out.2.2.1] at o4 y4 z4
  have O4 : Hid (One w4 (w.heap.size + 1) (m + rd * 128 + rs1 * 32768 + rs2 * 1048576)) := o4
  have hW4 : Hid (Below w.heap.size w w4) := Below.trans hW3.out (bt4.1.mono (by omega))
  have HS4 : Hid (SixC w4 w.heap.size k rd rs1 rs2 imm csr) := HS3.out.but bt4 hN
  clear c0 c1 c2 c3 c4 c5 o4 bt4 HS3
  obtain ⟨c0, c1, c2, c3, c4, c5⟩ := HS4.out
  go_wp2_with fail
  refine (clo_any 31 20 4096 1048576 csr (m + rd * 128 + rs1 * 32768 + rs2 * 1048576) _ _ O4.out y4 z4 e0 (by omega) (by omega) (by omega) (by omega) rfl rfl HD.out).mono ?_
  rintro e w5 ⟨rfl, o5, bt5, y5, z5⟩
  rw [R.out.2.2.2] at o5 y5 z5
  have O5 : Hid (One w5 (w.heap.size + 1) (m + rd * 128 + rs1 * 32768 + rs2 * 1048576 + csr * 1048576)) := o5
  have hW5 : Hid (Below w.heap.size w w5) := Below.trans hW4.out (bt5.1.mono (by omega))
  have HS5 : Hid (SixC w5 w.heap.size k rd rs1 rs2 imm csr) := HS4.out.but bt5 hN
  clear c0 c1 c2 c3 c4 c5 o5 bt5 HS4
  obtain ⟨c0, c1, c2, c3, c4, c5⟩ := HS5.out
  go_wp2_with fail
  refine (putImm_any k _ rfl hk rd rs1 rs2 imm csr (m + rd * 128 + rs1 * 32768 + rs2 * 1048576 + csr * 1048576) _ _ O5.out y5 z5 i0 i1 HE.out (FormTab.below HF.out hW5.out)).mono ?_
  rintro e w6 ⟨rfl, o6, b6⟩
  have cW := cell_of_one o6
  have hW6 : Hid (Below w.heap.size w w6) := Below.trans hW5.out (b6.mono (by omega))
  clear o6 b6
  go_wp2
  go_ret2
  refine ⟨?_, hW6.out⟩
  unfold encOf headOf
  rw [HL.out]
  rfl
end Go.Proofs.YthgolbmngjdbeaaGreatDoor

/- Layer 3: what mimesisref03's Patterns answers. -/
namespace Go.Proofs.YthgolbmngjdbeaaGreatDoor
open Go.RowKit
set_option linter.unusedVariables false

/-- The block that Patterns lays: mask and match, turn by turn. -/
def patCells : Array Value := ((List.range 57).flatMap fun j => [Value.int .u32 (maskL.getD j 0), .int .u32 (matchL.getD j 0)]).toArray

set_option maxHeartbeats 4000000 in
set_option maxRecDepth 100000 in
theorem patterns_any (w : World) :
    Calls Tryz.prog 58 #[] w fun e w' => e = .returned (.slice (some ⟨w.heap.size, 0, none⟩) 57 57) ∧ w' = w.alloc (.cells patCells 92) := by
  go_enter Tryz.func58, Tryz.ntmps58
  go_wp2
  go_ret
  exact ⟨rfl, rfl⟩

theorem patCells_at (j : Nat) (hj : j < 57) : patCells[2 * j]? = some (.int .u32 (maskL.getD j 0)) ∧ patCells[2 * j + 1]? = some (.int .u32 (matchL.getD j 0)) := by
  match j, hj with
  | 0, _ => exact ⟨rfl, rfl⟩
  | 1, _ => exact ⟨rfl, rfl⟩
  | 2, _ => exact ⟨rfl, rfl⟩
  | 3, _ => exact ⟨rfl, rfl⟩
  | 4, _ => exact ⟨rfl, rfl⟩
  | 5, _ => exact ⟨rfl, rfl⟩
  | 6, _ => exact ⟨rfl, rfl⟩
  | 7, _ => exact ⟨rfl, rfl⟩
  | 8, _ => exact ⟨rfl, rfl⟩
  | 9, _ => exact ⟨rfl, rfl⟩
  | 10, _ => exact ⟨rfl, rfl⟩
  | 11, _ => exact ⟨rfl, rfl⟩
  | 12, _ => exact ⟨rfl, rfl⟩
  | 13, _ => exact ⟨rfl, rfl⟩
  | 14, _ => exact ⟨rfl, rfl⟩
  | 15, _ => exact ⟨rfl, rfl⟩
  | 16, _ => exact ⟨rfl, rfl⟩
  | 17, _ => exact ⟨rfl, rfl⟩
  | 18, _ => exact ⟨rfl, rfl⟩
  | 19, _ => exact ⟨rfl, rfl⟩
  | 20, _ => exact ⟨rfl, rfl⟩
  | 21, _ => exact ⟨rfl, rfl⟩
  | 22, _ => exact ⟨rfl, rfl⟩
  | 23, _ => exact ⟨rfl, rfl⟩
  | 24, _ => exact ⟨rfl, rfl⟩
  | 25, _ => exact ⟨rfl, rfl⟩
  | 26, _ => exact ⟨rfl, rfl⟩
  | 27, _ => exact ⟨rfl, rfl⟩
  | 28, _ => exact ⟨rfl, rfl⟩
  | 29, _ => exact ⟨rfl, rfl⟩
  | 30, _ => exact ⟨rfl, rfl⟩
  | 31, _ => exact ⟨rfl, rfl⟩
  | 32, _ => exact ⟨rfl, rfl⟩
  | 33, _ => exact ⟨rfl, rfl⟩
  | 34, _ => exact ⟨rfl, rfl⟩
  | 35, _ => exact ⟨rfl, rfl⟩
  | 36, _ => exact ⟨rfl, rfl⟩
  | 37, _ => exact ⟨rfl, rfl⟩
  | 38, _ => exact ⟨rfl, rfl⟩
  | 39, _ => exact ⟨rfl, rfl⟩
  | 40, _ => exact ⟨rfl, rfl⟩
  | 41, _ => exact ⟨rfl, rfl⟩
  | 42, _ => exact ⟨rfl, rfl⟩
  | 43, _ => exact ⟨rfl, rfl⟩
  | 44, _ => exact ⟨rfl, rfl⟩
  | 45, _ => exact ⟨rfl, rfl⟩
  | 46, _ => exact ⟨rfl, rfl⟩
  | 47, _ => exact ⟨rfl, rfl⟩
  | 48, _ => exact ⟨rfl, rfl⟩
  | 49, _ => exact ⟨rfl, rfl⟩
  | 50, _ => exact ⟨rfl, rfl⟩
  | 51, _ => exact ⟨rfl, rfl⟩
  | 52, _ => exact ⟨rfl, rfl⟩
  | 53, _ => exact ⟨rfl, rfl⟩
  | 54, _ => exact ⟨rfl, rfl⟩
  | 55, _ => exact ⟨rfl, rfl⟩
  | 56, _ => exact ⟨rfl, rfl⟩
  | n + 57, h => exact absurd h (by omega)
end Go.Proofs.YthgolbmngjdbeaaGreatDoor

/- Layer 4: the document's own Encode, of any instruction. -/
namespace Go.Proofs.YthgolbmngjdbeaaGreatDoor
open Go.RowKit
set_option linter.unusedVariables false

set_option maxHeartbeats 400000 in
theorem eput_any (a b m p n x : Int) (w : World) (hx0 : 0 ≤ x) (hx1 : x < 4294967296) (n0 : 0 ≤ n) (n1 : n < 4294967296) (h0 : 0 ≤ b) (h1 : b ≤ a) (h2 : a ≤ 31) (hm : pw (a - b + 1) = m) (hp : pw b = p) (hz : x / p % m = 0) :
    Calls Tryz.prog 59 #[.int .u32 x, .int .i64 a, .int .i64 b, .int .u32 n] w fun e w' => e = .returned (.int .u32 (x + n % m * p)) ∧ Q w w' ∧ 0 ≤ x + n % m * p ∧ x + n % m * p < 4294967296 := by
  have HB : Hid (0 ≤ x + n % m * p ∧ x + n % m * p < 4294967296) := (or_free x n a b m p hx0 hx1 n0 h0 h1 h2 hm hp (.inr hz)).2
  have HV : Hid (putOf x b (a - b + 1) n = x + n % m * p) := by
    show putOf x b (a - b + 1) n = x + n % m * p
    unfold putOf bitsOf
    rw [hm, hp, hz]; omega
  clear hm hp hz
  go_enter Tryz.func59, Tryz.ntmps59
  go_wp2_with fail
  refine (rput_any x b (a - b + 1) n _ hx0 hx1 n0 n1 h0 ?_ ?_ ?_).mono ?_
  · omega
  · omega
  · omega
  rintro e w1 ⟨rfl, hq⟩
  rw [HV.out]
  go_wp2
  go_ret
  exact ⟨rfl, hq, HB.out⟩

set_option maxHeartbeats 400000 in
theorem epart_any (a b m p n : Int) (w : World) (n0 : 0 ≤ n) (n1 : n < 4294967296) (h0 : 0 ≤ b) (h1 : b ≤ a) (h2 : a ≤ 31) (hm : pw (a - b + 1) = m) (hp : pw b = p) :
    Calls Tryz.prog 60 #[.int .u32 n, .int .i64 a, .int .i64 b] w fun e w' => e = .returned (.int .u32 (n / p % m)) ∧ Q w w' := by
  have HV : Hid (bitsOf n b (a - b + 1) = n / p % m) := by
    show bitsOf n b (a - b + 1) = n / p % m
    unfold bitsOf
    rw [hm, hp]
  clear hm hp
  go_enter Tryz.func60, Tryz.ntmps60
  go_wp2_with fail
  refine (rbits_any n b (a - b + 1) _ n0 n1 h0 ?_ ?_ ?_).mono ?_
  · omega
  · omega
  · omega
  rintro e w1 ⟨rfl, hq⟩
  rw [HV.out]
  go_wp2
  go_ret
  exact ⟨rfl, hq⟩

theorem patt_any (j : Nat) (hj : j < 57) (w : World) :
    Calls Tryz.prog 58 #[] w fun e w' => e = .returned (.slice (some ⟨w.heap.size, 0, none⟩) 57 57) ∧ Below w.heap.size w w' ∧ w'.cell? ⟨w.heap.size, j * 2 + 1, none⟩ = some (.int .u32 (matchL.getD j 0)) := by
  refine (patterns_any w).mono ?_
  rintro e w' ⟨rfl, rfl⟩
  refine ⟨rfl, (Below.refl _ _).alloc (Nat.le_refl _) _, ?_⟩
  rw [World.cell?_alloc_at _ _ _ _ rfl]
  have := (patCells_at j hj).2
  rw [Nat.mul_comm] at this
  simpa using this

theorem ret_pairb {k : IntKind} {a b : Int} {c : Bool} (h : a = b) : Ending.returned (.tuple #[.int k a, .bool c]) = .returned (.tuple #[.int k b, .bool c]) := by rw [h]

set_option maxHeartbeats 1000000 in
theorem renc_bad (op rd rs1 rs2 imm csr : Int) (w : World) (h : ¬ (1 ≤ op ∧ op < 58)) :
    Calls Tryz.prog 32 #[.agg #[.int .i64 op, .int .i64 rd, .int .i64 rs1, .int .i64 rs2, .int .u32 imm, .int .i64 csr]] w fun e w' => e = .returned (.tuple #[.int .u32 0, .bool false]) ∧ Below w.heap.size w w' := by
  by_cases h0 : op = 0
  · subst h0
    go_enter Tryz.func32, Tryz.ntmps32
    go_wp2
    go_ret2
    exact ⟨rfl, (Below.refl _ _).alloc (Nat.le_refl _) _⟩
  · have hn : (op == 0) = false := by simpa using h0
    have ho : opB op = false := opB_f (by omega)
    go_enter Tryz.func32, Tryz.ntmps32
    go_wp2_with fail
    refine (rright_no op rd rs1 rs2 imm csr _ ho).mono ?_
    rintro e w1 ⟨rfl, hb⟩
    go_wp2
    go_ret2
    refine ⟨rfl, ((Below.refl _ _).alloc (Nat.le_refl _) _).trans (hb.mono ?_)⟩
    simp

set_option maxHeartbeats 1000000 in
theorem renc_no (k : Nat) (rd rs1 rs2 imm csr : Int) (w : World) (hk : k < 58) (hk0 : k ≠ 0) (i0 : 0 ≤ imm) (i1 : imm < 4294967296) (hr : rightOf (formZ k) rd rs1 rs2 imm csr = false) :
    Calls Tryz.prog 32 #[.agg #[.int .i64 k, .int .i64 rd, .int .i64 rs1, .int .i64 rs2, .int .u32 imm, .int .i64 csr]] w fun e w' => e = .returned (.tuple #[.int .u32 0, .bool false]) ∧ Below w.heap.size w w' := by
  have HR : Hid (rightOf (formZ k) rd rs1 rs2 imm csr = false) := hr
  have hn := eneb hk0
  clear hr
  go_enter Tryz.func32, Tryz.ntmps32
  go_wp2_with fail
  refine (rright_yes k rd rs1 rs2 imm csr _ hk i0 i1).mono ?_
  rw [HR.out]
  rintro e w1 ⟨rfl, hb⟩
  go_wp2
  go_ret2
  refine ⟨rfl, ((Below.refl _ _).alloc (Nat.le_refl _) _).trans (hb.mono ?_)⟩
  simp

theorem free_of (x p m H L : Int) (hp : 0 < p) (h : x = p * (m * H) + L) (h0 : 0 ≤ L) (h1 : L < p) : x / p % m = 0 := by
  rw [h, Int.add_comm, Int.add_mul_ediv_left _ _ (by omega), Int.ediv_eq_zero_of_lt h0 h1, Int.zero_add, Int.mul_emod_right]
theorem m_split2 (m : Int) (h0 : 0 ≤ m) (h : m < 32768 ∧ m / 128 % 32 = 0) : ∃ m3 m7 : Int, m = m3 * 4096 + m7 ∧ (0 ≤ m3 ∧ m3 < 8) ∧ 0 ≤ m7 ∧ m7 < 128 := ⟨m / 4096, m % 128, by omega, by omega, by omega, by omega⟩
theorem m_split3 (m : Int) (h0 : 0 ≤ m) (h1 : m < 4294967296) (h : m / 128 % 32 = 0 ∧ m / 32768 % 1024 = 0) : ∃ m25 m3 m7 : Int, m = m25 * 33554432 + m3 * 4096 + m7 ∧ (0 ≤ m25 ∧ m25 < 128) ∧ (0 ≤ m3 ∧ m3 < 8) ∧ 0 ≤ m7 ∧ m7 < 128 := ⟨m / 33554432, m / 4096 % 8, m % 128, by omega, by omega, by omega, by omega, by omega⟩

end Go.Proofs.YthgolbmngjdbeaaGreatDoor

/- Layer 4: the document's own Encode, form by form. -/
namespace Go.Proofs.YthgolbmngjdbeaaGreatDoor
open Go.RowKit
set_option linter.unusedVariables false

set_option maxHeartbeats 1000000 in
theorem renc_0 (j : Nat) (hz : formZ (j + 1) = 0) (rd rs1 rs2 imm csr : Int) (w : World) (hj : j < 57) (i0 : 0 ≤ imm) (i1 : imm < 4294967296) (hr : rightOf (formZ (j + 1)) rd rs1 rs2 imm csr = true) :
    Calls Tryz.prog 32 #[.agg #[.int .i64 ((j : Int) + 1), .int .i64 rd, .int .i64 rs1, .int .i64 rs2, .int .u32 imm, .int .i64 csr]] w fun e w' => e = .returned (.tuple #[.int .u32 (encOf (j + 1) rd rs1 rs2 imm csr), .bool true]) ∧ Below w.heap.size w w' := by
  have hn : ((j : Int) + 1 == 0) = false := eneb (show j + 1 ≠ 0 by omega)
  have HR : Hid (∀ w, Calls Tryz.prog 57 #[.agg #[.int .i64 ((j : Int) + 1), .int .i64 rd, .int .i64 rs1, .int .i64 rs2, .int .u32 imm, .int .i64 csr]] w fun e w' => e = .returned (.bool true) ∧ Below w.heap.size w w') := fun w => by
    have := rright_yes (j + 1) rd rs1 rs2 imm csr w (by omega) i0 i1
    rw [hr] at this
    exact this
  obtain ⟨⟨m0, m1⟩, ⟨a0, a1⟩, ⟨b0, b1⟩, ⟨d0, d1⟩, ⟨e0, e1⟩, _⟩ := enc_puts (j + 1) (by omega) (by omega) rd rs1 rs2 imm csr _ rfl hr
  obtain ⟨p1, p2, p3, p4, _⟩ := right_parts _ _ _ _ _ _ hr
  have n1 := match_p1 (j + 1) (by omega) (by omega)
  have n2 := match_p2 (j + 1) (by omega) (by omega)
  have n3 := match_p3 (j + 1) (by omega) (by omega)
  clear hr
  generalize hm : matchL.getD (j + 1 - 1) 0 = m at *
  have HL : Hid (matchL.getD (j + 1 - 1) 0 = m) := hm
  clear hm
  have hff := hz
  rw [hz] at n1 n2 n3 p1 p2 p3 p4
  have HK : Hid (formZ (j + 1) = 0) := hff
  have HF : Hid (∀ w, Calls Tryz.prog 30 #[.int .i64 ((j : Int) + 1)] w fun e w' => e = .returned (.int .i64 0) ∧ w' = w) := fun w => by
    have := rform_any (j + 1) (by omega) w
    rw [hff] at this
    exact this
  clear hff hz
  have HM : Hid _ := And.intro n1 (And.intro n2 n3)
  have HP : Hid _ := And.intro p1 (And.intro p2 (And.intro p3 p4))
  clear n1 n2 n3 p1 p2 p3 p4
  have hS : SixC (w.alloc (.cells #[.int .i64 ((j : Int) + 1), .int .i64 rd, .int .i64 rs1, .int .i64 rs2, .int .u32 imm, .int .i64 csr] 30)) w.heap.size ((j : Int) + 1) rd rs1 rs2 imm csr := sixC_new w _ rfl _ _ _ _ _ _ _
  have hW : Below w.heap.size w (w.alloc (.cells #[.int .i64 ((j : Int) + 1), .int .i64 rd, .int .i64 rs1, .int .i64 rs2, .int .u32 imm, .int .i64 csr] 30)) := (Below.refl _ _).alloc (Nat.le_refl _) _
  have HS : Hid (SixC (w.alloc (.cells #[.int .i64 ((j : Int) + 1), .int .i64 rd, .int .i64 rs1, .int .i64 rs2, .int .u32 imm, .int .i64 csr] 30)) w.heap.size ((j : Int) + 1) rd rs1 rs2 imm csr) := hS
  clear hS
  have g0 : (0 : Int) ≤ (j : Int) := by omega
  have g1 : (j : Int) < 57 := by omega
  have g2 : IntKind.i64.wrap (j : Int) = j := by rw [IntKind.wrap_i64]; omega
  have g3 : IntKind.i64.wrap ((j : Int) + 1 - 1) = j := by rw [IntKind.wrap_i64]; omega
  go_enter Tryz.func32, Tryz.ntmps32
  go_wp2_with fail
  generalize (w.alloc (.cells #[.int .i64 ((j : Int) + 1), .int .i64 rd, .int .i64 rs1, .int .i64 rs2, .int .u32 imm, .int .i64 csr] 30)) = W at *
  refine (HR.out _).mono ?_
  rintro e w1 ⟨rfl, hb⟩
  have HS1 : Hid _ := HS.out.on hb
  have hW1 : Hid (Below w.heap.size w w1) := hW.trans (hb.mono hW.size)
  clear HS hb hW
  obtain ⟨c0, c1, c2, c3, c4, c5⟩ := HS1.out
  go_wp2_with fail
  refine (HF.out _).mono ?_
  rintro e w2 ⟨rfl, hw⟩
  have hw := hw.symm
  subst hw
  go_wp2_with fail
  go_region_with (first | (go_at_call 58; refine (patt_any j hj _).mono ?_; rintro e w3 ⟨rfl, hb3, hc⟩; rw [show matchL.getD j 0 = m from HL.out] at hc; have hc : w3.cell? ⟨w1.heap.size, j * 2 + 1, none⟩ = some (.int .u32 m) := hc; have hW3 : Hid (Below w.heap.size w w3) := Below.trans hW1.out.drew (hb3.mono hW1.out.size); have HS3 : Hid _ := SixC.on (SixC.on HS1.out ((Below.refl w1.heap.size w1).drew)) hb3; have k0 := HS3.out.1; clear hb3))
  all_goals (try clear e)
  all_goals (clear k0 hc; revert HS3; revert hW3; revert w3)
  refine ?key
  rotate_left
  exact ?key
  intro w3 _ hW3 HS3
  obtain ⟨n1, n2, n3⟩ := HM.out
  obtain ⟨p1, p2, p3, p4⟩ := HP.out
  clear HM HP HR HF HS1 hW1 c0 c1 c2 c3 c4 c5 g2 g3 hn
  have HX : Hid (rd = 0 ∧ rs1 = 0 ∧ rs2 = 0 ∧ csr = 0) := ⟨partB_n p1, partB_n p2, partB_n p3, partB_n p4⟩
  clear n1 n2 n3 p1 p2 p3 p4
  obtain ⟨c0, c1, c2, c3, c4, c5⟩ := HS3.out
  go_wp2
  go_ret2
  refine ⟨ret_pairb ?_, hW3.out⟩
  unfold encOf headOf
  rw [HL.out, HK.out, show immPut 0 imm = 0 from rfl]
  have q0 := HX.out
  omega

end Go.Proofs.YthgolbmngjdbeaaGreatDoor

/- Layer 4: the document's own Encode, form by form. -/
namespace Go.Proofs.YthgolbmngjdbeaaGreatDoor
open Go.RowKit
set_option linter.unusedVariables false

set_option maxHeartbeats 1000000 in
theorem renc_1 (j : Nat) (hz : formZ (j + 1) = 1) (rd rs1 rs2 imm csr : Int) (w : World) (hj : j < 57) (i0 : 0 ≤ imm) (i1 : imm < 4294967296) (hr : rightOf (formZ (j + 1)) rd rs1 rs2 imm csr = true) :
    Calls Tryz.prog 32 #[.agg #[.int .i64 ((j : Int) + 1), .int .i64 rd, .int .i64 rs1, .int .i64 rs2, .int .u32 imm, .int .i64 csr]] w fun e w' => e = .returned (.tuple #[.int .u32 (encOf (j + 1) rd rs1 rs2 imm csr), .bool true]) ∧ Below w.heap.size w w' := by
  have hn : ((j : Int) + 1 == 0) = false := eneb (show j + 1 ≠ 0 by omega)
  have HR : Hid (∀ w, Calls Tryz.prog 57 #[.agg #[.int .i64 ((j : Int) + 1), .int .i64 rd, .int .i64 rs1, .int .i64 rs2, .int .u32 imm, .int .i64 csr]] w fun e w' => e = .returned (.bool true) ∧ Below w.heap.size w w') := fun w => by
    have := rright_yes (j + 1) rd rs1 rs2 imm csr w (by omega) i0 i1
    rw [hr] at this
    exact this
  obtain ⟨⟨m0, m1⟩, ⟨a0, a1⟩, ⟨b0, b1⟩, ⟨d0, d1⟩, ⟨e0, e1⟩, _⟩ := enc_puts (j + 1) (by omega) (by omega) rd rs1 rs2 imm csr _ rfl hr
  obtain ⟨p1, p2, p3, p4, _⟩ := right_parts _ _ _ _ _ _ hr
  have n1 := match_p1 (j + 1) (by omega) (by omega)
  have n2 := match_p2 (j + 1) (by omega) (by omega)
  have n3 := match_p3 (j + 1) (by omega) (by omega)
  clear hr
  generalize hm : matchL.getD (j + 1 - 1) 0 = m at *
  have HL : Hid (matchL.getD (j + 1 - 1) 0 = m) := hm
  clear hm
  have hff := hz
  rw [hz] at n1 n2 n3 p1 p2 p3 p4
  have HK : Hid (formZ (j + 1) = 1) := hff
  have HF : Hid (∀ w, Calls Tryz.prog 30 #[.int .i64 ((j : Int) + 1)] w fun e w' => e = .returned (.int .i64 1) ∧ w' = w) := fun w => by
    have := rform_any (j + 1) (by omega) w
    rw [hff] at this
    exact this
  clear hff hz
  have HM : Hid _ := And.intro n1 (And.intro n2 n3)
  have HP : Hid _ := And.intro p1 (And.intro p2 (And.intro p3 p4))
  clear n1 n2 n3 p1 p2 p3 p4
  have hS : SixC (w.alloc (.cells #[.int .i64 ((j : Int) + 1), .int .i64 rd, .int .i64 rs1, .int .i64 rs2, .int .u32 imm, .int .i64 csr] 30)) w.heap.size ((j : Int) + 1) rd rs1 rs2 imm csr := sixC_new w _ rfl _ _ _ _ _ _ _
  have hW : Below w.heap.size w (w.alloc (.cells #[.int .i64 ((j : Int) + 1), .int .i64 rd, .int .i64 rs1, .int .i64 rs2, .int .u32 imm, .int .i64 csr] 30)) := (Below.refl _ _).alloc (Nat.le_refl _) _
  have HS : Hid (SixC (w.alloc (.cells #[.int .i64 ((j : Int) + 1), .int .i64 rd, .int .i64 rs1, .int .i64 rs2, .int .u32 imm, .int .i64 csr] 30)) w.heap.size ((j : Int) + 1) rd rs1 rs2 imm csr) := hS
  clear hS
  have g0 : (0 : Int) ≤ (j : Int) := by omega
  have g1 : (j : Int) < 57 := by omega
  have g2 : IntKind.i64.wrap (j : Int) = j := by rw [IntKind.wrap_i64]; omega
  have g3 : IntKind.i64.wrap ((j : Int) + 1 - 1) = j := by rw [IntKind.wrap_i64]; omega
  go_enter Tryz.func32, Tryz.ntmps32
  go_wp2_with fail
  generalize (w.alloc (.cells #[.int .i64 ((j : Int) + 1), .int .i64 rd, .int .i64 rs1, .int .i64 rs2, .int .u32 imm, .int .i64 csr] 30)) = W at *
  refine (HR.out _).mono ?_
  rintro e w1 ⟨rfl, hb⟩
  have HS1 : Hid _ := HS.out.on hb
  have hW1 : Hid (Below w.heap.size w w1) := hW.trans (hb.mono hW.size)
  clear HS hb hW
  obtain ⟨c0, c1, c2, c3, c4, c5⟩ := HS1.out
  go_wp2_with fail
  refine (HF.out _).mono ?_
  rintro e w2 ⟨rfl, hw⟩
  have hw := hw.symm
  subst hw
  go_wp2_with fail
  go_region_with (first | (go_at_call 58; refine (patt_any j hj _).mono ?_; rintro e w3 ⟨rfl, hb3, hc⟩; rw [show matchL.getD j 0 = m from HL.out] at hc; have hc : w3.cell? ⟨w1.heap.size, j * 2 + 1, none⟩ = some (.int .u32 m) := hc; have hW3 : Hid (Below w.heap.size w w3) := Below.trans hW1.out.drew (hb3.mono hW1.out.size); have HS3 : Hid _ := SixC.on (SixC.on HS1.out ((Below.refl w1.heap.size w1).drew)) hb3; have k0 := HS3.out.1; clear hb3))
  all_goals (try clear e)
  all_goals (clear k0 hc; revert HS3; revert hW3; revert w3)
  refine ?key
  rotate_left
  exact ?key
  intro w3 _ hW3 HS3
  obtain ⟨n1, n2, n3⟩ := HM.out
  obtain ⟨p1, p2, p3, p4⟩ := HP.out
  clear HM HP HR HF HS1 hW1 c0 c1 c2 c3 c4 c5 g2 g3 hn
  have HX : Hid (True ∧ rs1 = 0 ∧ rs2 = 0 ∧ csr = 0) := ⟨trivial, partB_n p2, partB_n p3, partB_n p4⟩
  have hm : m < 128 := n1 (by simp)
  clear n1 n2 n3 p1 p2 p3 p4
  obtain ⟨c0, c1, c2, c3, c4, c5⟩ := HS3.out
  have hz : m / 128 % 32 = 0 := by
    exact free_of m 128 32 (0) (m * 1) (by omega) (by omega) (by omega) (by omega)
  have HZ : Hid (m / 128 % 32 = 0) := hz
  clear hz
  go_wp2_with fail
  refine (eput_any 11 7 32 128 rd m _ m0 m1 (by omega) (by omega) (by omega) (by omega) (by omega) rfl rfl HZ.out).mono ?_
  clear HZ
  rintro e w4 ⟨rfl, hq, y4, z4⟩
  generalize hv : m + rd % 32 * 128 = x1 at y4 z4 ⊢
  have HV1 : Hid (m + rd * 128 = x1) := by show _ = _; omega
  clear hv
  have hW4 : Hid (Below w.heap.size w w4) := Below.trans hW3.out ((hq.below _).mono hW3.out.size)
  have HS4 : Hid (SixC w4 w.heap.size ((j : Int) + 1) rd rs1 rs2 imm csr) := SixC.on HS3.out (hq.below _)
  clear hq c0 c1 c2 c3 c4 c5 HS3 hW3
  obtain ⟨c0, c1, c2, c3, c4, c5⟩ := HS4.out
  go_wp2_with fail
  refine (epart_any 31 12 1048576 4096 imm _ i0 i1 (by omega) (by omega) (by omega) rfl rfl).mono ?_
  rintro e w5 ⟨rfl, hq⟩
  generalize hv : imm / 4096 % 1048576 = v2
  have HV2 : Hid (imm / 4096 % 1048576 = v2) := by show _ = _; omega
  have hv2 : 0 ≤ v2 ∧ v2 < 1048576 := by omega
  clear hv
  have hW5 : Hid (Below w.heap.size w w5) := Below.trans hW4.out ((hq.below _).mono hW4.out.size)
  have HS5 : Hid (SixC w5 w.heap.size ((j : Int) + 1) rd rs1 rs2 imm csr) := SixC.on HS4.out (hq.below _)
  clear hq c0 c1 c2 c3 c4 c5 HS4 hW4
  obtain ⟨c0, c1, c2, c3, c4, c5⟩ := HS5.out
  have hz : x1 / 4096 % 1048576 = 0 := by
    have q0 := HV1.out
    exact free_of x1 4096 1048576 (0) (m * 1 + rd * 128) (by omega) (by omega) (by omega) (by omega)
  have HZ : Hid (x1 / 4096 % 1048576 = 0) := hz
  clear hz
  go_wp2_with fail
  refine (eput_any 31 12 1048576 4096 v2 x1 _ y4 z4 (by omega) (by omega) (by omega) (by omega) (by omega) rfl rfl HZ.out).mono ?_
  clear HZ
  rintro e w6 ⟨rfl, hq, y6, z6⟩
  generalize hv : x1 + v2 % 1048576 * 4096 = x3 at y6 z6 ⊢
  have HV3 : Hid (x1 + v2 * 4096 = x3) := by show _ = _; omega
  clear hv
  have hW6 : Hid (Below w.heap.size w w6) := Below.trans hW5.out ((hq.below _).mono hW5.out.size)
  have HS6 : Hid (SixC w6 w.heap.size ((j : Int) + 1) rd rs1 rs2 imm csr) := SixC.on HS5.out (hq.below _)
  clear hq c0 c1 c2 c3 c4 c5 HS5 hW5
  obtain ⟨c0, c1, c2, c3, c4, c5⟩ := HS6.out
  go_wp2
  go_ret2
  refine ⟨ret_pairb ?_, hW6.out⟩
  unfold encOf headOf
  rw [HL.out, HK.out, show immPut 1 imm = imm / 4096 % 1048576 * 4096 from rfl, HV2.out]
  have q0 := HV1.out
  have q1 := HV3.out
  have q2 := HX.out
  omega

end Go.Proofs.YthgolbmngjdbeaaGreatDoor

/- Layer 4: the document's own Encode, form by form. -/
namespace Go.Proofs.YthgolbmngjdbeaaGreatDoor
open Go.RowKit
set_option linter.unusedVariables false

set_option maxHeartbeats 1000000 in
theorem renc_2 (j : Nat) (hz : formZ (j + 1) = 2) (rd rs1 rs2 imm csr : Int) (w : World) (hj : j < 57) (i0 : 0 ≤ imm) (i1 : imm < 4294967296) (hr : rightOf (formZ (j + 1)) rd rs1 rs2 imm csr = true) :
    Calls Tryz.prog 32 #[.agg #[.int .i64 ((j : Int) + 1), .int .i64 rd, .int .i64 rs1, .int .i64 rs2, .int .u32 imm, .int .i64 csr]] w fun e w' => e = .returned (.tuple #[.int .u32 (encOf (j + 1) rd rs1 rs2 imm csr), .bool true]) ∧ Below w.heap.size w w' := by
  have hn : ((j : Int) + 1 == 0) = false := eneb (show j + 1 ≠ 0 by omega)
  have HR : Hid (∀ w, Calls Tryz.prog 57 #[.agg #[.int .i64 ((j : Int) + 1), .int .i64 rd, .int .i64 rs1, .int .i64 rs2, .int .u32 imm, .int .i64 csr]] w fun e w' => e = .returned (.bool true) ∧ Below w.heap.size w w') := fun w => by
    have := rright_yes (j + 1) rd rs1 rs2 imm csr w (by omega) i0 i1
    rw [hr] at this
    exact this
  obtain ⟨⟨m0, m1⟩, ⟨a0, a1⟩, ⟨b0, b1⟩, ⟨d0, d1⟩, ⟨e0, e1⟩, _⟩ := enc_puts (j + 1) (by omega) (by omega) rd rs1 rs2 imm csr _ rfl hr
  obtain ⟨p1, p2, p3, p4, _⟩ := right_parts _ _ _ _ _ _ hr
  have n1 := match_p1 (j + 1) (by omega) (by omega)
  have n2 := match_p2 (j + 1) (by omega) (by omega)
  have n3 := match_p3 (j + 1) (by omega) (by omega)
  clear hr
  generalize hm : matchL.getD (j + 1 - 1) 0 = m at *
  have HL : Hid (matchL.getD (j + 1 - 1) 0 = m) := hm
  clear hm
  have hff := hz
  rw [hz] at n1 n2 n3 p1 p2 p3 p4
  have HK : Hid (formZ (j + 1) = 2) := hff
  have HF : Hid (∀ w, Calls Tryz.prog 30 #[.int .i64 ((j : Int) + 1)] w fun e w' => e = .returned (.int .i64 2) ∧ w' = w) := fun w => by
    have := rform_any (j + 1) (by omega) w
    rw [hff] at this
    exact this
  clear hff hz
  have HM : Hid _ := And.intro n1 (And.intro n2 n3)
  have HP : Hid _ := And.intro p1 (And.intro p2 (And.intro p3 p4))
  clear n1 n2 n3 p1 p2 p3 p4
  have hS : SixC (w.alloc (.cells #[.int .i64 ((j : Int) + 1), .int .i64 rd, .int .i64 rs1, .int .i64 rs2, .int .u32 imm, .int .i64 csr] 30)) w.heap.size ((j : Int) + 1) rd rs1 rs2 imm csr := sixC_new w _ rfl _ _ _ _ _ _ _
  have hW : Below w.heap.size w (w.alloc (.cells #[.int .i64 ((j : Int) + 1), .int .i64 rd, .int .i64 rs1, .int .i64 rs2, .int .u32 imm, .int .i64 csr] 30)) := (Below.refl _ _).alloc (Nat.le_refl _) _
  have HS : Hid (SixC (w.alloc (.cells #[.int .i64 ((j : Int) + 1), .int .i64 rd, .int .i64 rs1, .int .i64 rs2, .int .u32 imm, .int .i64 csr] 30)) w.heap.size ((j : Int) + 1) rd rs1 rs2 imm csr) := hS
  clear hS
  have g0 : (0 : Int) ≤ (j : Int) := by omega
  have g1 : (j : Int) < 57 := by omega
  have g2 : IntKind.i64.wrap (j : Int) = j := by rw [IntKind.wrap_i64]; omega
  have g3 : IntKind.i64.wrap ((j : Int) + 1 - 1) = j := by rw [IntKind.wrap_i64]; omega
  go_enter Tryz.func32, Tryz.ntmps32
  go_wp2_with fail
  generalize (w.alloc (.cells #[.int .i64 ((j : Int) + 1), .int .i64 rd, .int .i64 rs1, .int .i64 rs2, .int .u32 imm, .int .i64 csr] 30)) = W at *
  refine (HR.out _).mono ?_
  rintro e w1 ⟨rfl, hb⟩
  have HS1 : Hid _ := HS.out.on hb
  have hW1 : Hid (Below w.heap.size w w1) := hW.trans (hb.mono hW.size)
  clear HS hb hW
  obtain ⟨c0, c1, c2, c3, c4, c5⟩ := HS1.out
  go_wp2_with fail
  refine (HF.out _).mono ?_
  rintro e w2 ⟨rfl, hw⟩
  have hw := hw.symm
  subst hw
  go_wp2_with fail
  go_region_with (first | (go_at_call 58; refine (patt_any j hj _).mono ?_; rintro e w3 ⟨rfl, hb3, hc⟩; rw [show matchL.getD j 0 = m from HL.out] at hc; have hc : w3.cell? ⟨w1.heap.size, j * 2 + 1, none⟩ = some (.int .u32 m) := hc; have hW3 : Hid (Below w.heap.size w w3) := Below.trans hW1.out.drew (hb3.mono hW1.out.size); have HS3 : Hid _ := SixC.on (SixC.on HS1.out ((Below.refl w1.heap.size w1).drew)) hb3; have k0 := HS3.out.1; clear hb3))
  all_goals (try clear e)
  all_goals (clear k0 hc; revert HS3; revert hW3; revert w3)
  refine ?key
  rotate_left
  exact ?key
  intro w3 _ hW3 HS3
  obtain ⟨n1, n2, n3⟩ := HM.out
  obtain ⟨p1, p2, p3, p4⟩ := HP.out
  clear HM HP HR HF HS1 hW1 c0 c1 c2 c3 c4 c5 g2 g3 hn
  have HX : Hid (True ∧ rs1 = 0 ∧ rs2 = 0 ∧ csr = 0) := ⟨trivial, partB_n p2, partB_n p3, partB_n p4⟩
  have hm : m < 128 := n1 (by simp)
  clear n1 n2 n3 p1 p2 p3 p4
  obtain ⟨c0, c1, c2, c3, c4, c5⟩ := HS3.out
  have hz : m / 128 % 32 = 0 := by
    exact free_of m 128 32 (0) (m * 1) (by omega) (by omega) (by omega) (by omega)
  have HZ : Hid (m / 128 % 32 = 0) := hz
  clear hz
  go_wp2_with fail
  refine (eput_any 11 7 32 128 rd m _ m0 m1 (by omega) (by omega) (by omega) (by omega) (by omega) rfl rfl HZ.out).mono ?_
  clear HZ
  rintro e w4 ⟨rfl, hq, y4, z4⟩
  generalize hv : m + rd % 32 * 128 = x1 at y4 z4 ⊢
  have HV1 : Hid (m + rd * 128 = x1) := by show _ = _; omega
  clear hv
  have hW4 : Hid (Below w.heap.size w w4) := Below.trans hW3.out ((hq.below _).mono hW3.out.size)
  have HS4 : Hid (SixC w4 w.heap.size ((j : Int) + 1) rd rs1 rs2 imm csr) := SixC.on HS3.out (hq.below _)
  clear hq c0 c1 c2 c3 c4 c5 HS3 hW3
  obtain ⟨c0, c1, c2, c3, c4, c5⟩ := HS4.out
  go_wp2_with fail
  refine (epart_any 20 20 2 1048576 imm _ i0 i1 (by omega) (by omega) (by omega) rfl rfl).mono ?_
  rintro e w5 ⟨rfl, hq⟩
  generalize hv : imm / 1048576 % 2 = v2
  have HV2 : Hid (imm / 1048576 % 2 = v2) := by show _ = _; omega
  have hv2 : 0 ≤ v2 ∧ v2 < 2 := by omega
  clear hv
  have hW5 : Hid (Below w.heap.size w w5) := Below.trans hW4.out ((hq.below _).mono hW4.out.size)
  have HS5 : Hid (SixC w5 w.heap.size ((j : Int) + 1) rd rs1 rs2 imm csr) := SixC.on HS4.out (hq.below _)
  clear hq c0 c1 c2 c3 c4 c5 HS4 hW4
  obtain ⟨c0, c1, c2, c3, c4, c5⟩ := HS5.out
  have hz : x1 / 2147483648 % 2 = 0 := by
    have q0 := HV1.out
    exact free_of x1 2147483648 2 (0) (m * 1 + rd * 128) (by omega) (by omega) (by omega) (by omega)
  have HZ : Hid (x1 / 2147483648 % 2 = 0) := hz
  clear hz
  go_wp2_with fail
  refine (eput_any 31 31 2 2147483648 v2 x1 _ y4 z4 (by omega) (by omega) (by omega) (by omega) (by omega) rfl rfl HZ.out).mono ?_
  clear HZ
  rintro e w6 ⟨rfl, hq, y6, z6⟩
  generalize hv : x1 + v2 % 2 * 2147483648 = x3 at y6 z6 ⊢
  have HV3 : Hid (x1 + v2 * 2147483648 = x3) := by show _ = _; omega
  clear hv
  have hW6 : Hid (Below w.heap.size w w6) := Below.trans hW5.out ((hq.below _).mono hW5.out.size)
  have HS6 : Hid (SixC w6 w.heap.size ((j : Int) + 1) rd rs1 rs2 imm csr) := SixC.on HS5.out (hq.below _)
  clear hq c0 c1 c2 c3 c4 c5 HS5 hW5
  obtain ⟨c0, c1, c2, c3, c4, c5⟩ := HS6.out
  go_wp2_with fail
  refine (epart_any 19 12 256 4096 imm _ i0 i1 (by omega) (by omega) (by omega) rfl rfl).mono ?_
  rintro e w7 ⟨rfl, hq⟩
  generalize hv : imm / 4096 % 256 = v4
  have HV4 : Hid (imm / 4096 % 256 = v4) := by show _ = _; omega
  have hv4 : 0 ≤ v4 ∧ v4 < 256 := by omega
  clear hv
  have hW7 : Hid (Below w.heap.size w w7) := Below.trans hW6.out ((hq.below _).mono hW6.out.size)
  have HS7 : Hid (SixC w7 w.heap.size ((j : Int) + 1) rd rs1 rs2 imm csr) := SixC.on HS6.out (hq.below _)
  clear hq c0 c1 c2 c3 c4 c5 HS6 hW6
  obtain ⟨c0, c1, c2, c3, c4, c5⟩ := HS7.out
  have hz : x3 / 4096 % 256 = 0 := by
    have q0 := HV1.out
    have q1 := HV3.out
    exact free_of x3 4096 256 (v2 * 2048) (m * 1 + rd * 128) (by omega) (by omega) (by omega) (by omega)
  have HZ : Hid (x3 / 4096 % 256 = 0) := hz
  clear hz
  go_wp2_with fail
  refine (eput_any 19 12 256 4096 v4 x3 _ y6 z6 (by omega) (by omega) (by omega) (by omega) (by omega) rfl rfl HZ.out).mono ?_
  clear HZ
  rintro e w8 ⟨rfl, hq, y8, z8⟩
  generalize hv : x3 + v4 % 256 * 4096 = x5 at y8 z8 ⊢
  have HV5 : Hid (x3 + v4 * 4096 = x5) := by show _ = _; omega
  clear hv
  have hW8 : Hid (Below w.heap.size w w8) := Below.trans hW7.out ((hq.below _).mono hW7.out.size)
  have HS8 : Hid (SixC w8 w.heap.size ((j : Int) + 1) rd rs1 rs2 imm csr) := SixC.on HS7.out (hq.below _)
  clear hq c0 c1 c2 c3 c4 c5 HS7 hW7
  obtain ⟨c0, c1, c2, c3, c4, c5⟩ := HS8.out
  go_wp2_with fail
  refine (epart_any 11 11 2 2048 imm _ i0 i1 (by omega) (by omega) (by omega) rfl rfl).mono ?_
  rintro e w9 ⟨rfl, hq⟩
  generalize hv : imm / 2048 % 2 = v6
  have HV6 : Hid (imm / 2048 % 2 = v6) := by show _ = _; omega
  have hv6 : 0 ≤ v6 ∧ v6 < 2 := by omega
  clear hv
  have hW9 : Hid (Below w.heap.size w w9) := Below.trans hW8.out ((hq.below _).mono hW8.out.size)
  have HS9 : Hid (SixC w9 w.heap.size ((j : Int) + 1) rd rs1 rs2 imm csr) := SixC.on HS8.out (hq.below _)
  clear hq c0 c1 c2 c3 c4 c5 HS8 hW8
  obtain ⟨c0, c1, c2, c3, c4, c5⟩ := HS9.out
  have hz : x5 / 1048576 % 2 = 0 := by
    have q0 := HV1.out
    have q1 := HV3.out
    have q2 := HV5.out
    exact free_of x5 1048576 2 (v2 * 1024) (m * 1 + rd * 128 + v4 * 4096) (by omega) (by omega) (by omega) (by omega)
  have HZ : Hid (x5 / 1048576 % 2 = 0) := hz
  clear hz
  go_wp2_with fail
  refine (eput_any 20 20 2 1048576 v6 x5 _ y8 z8 (by omega) (by omega) (by omega) (by omega) (by omega) rfl rfl HZ.out).mono ?_
  clear HZ
  rintro e w10 ⟨rfl, hq, y10, z10⟩
  generalize hv : x5 + v6 % 2 * 1048576 = x7 at y10 z10 ⊢
  have HV7 : Hid (x5 + v6 * 1048576 = x7) := by show _ = _; omega
  clear hv
  have hW10 : Hid (Below w.heap.size w w10) := Below.trans hW9.out ((hq.below _).mono hW9.out.size)
  have HS10 : Hid (SixC w10 w.heap.size ((j : Int) + 1) rd rs1 rs2 imm csr) := SixC.on HS9.out (hq.below _)
  clear hq c0 c1 c2 c3 c4 c5 HS9 hW9
  obtain ⟨c0, c1, c2, c3, c4, c5⟩ := HS10.out
  go_wp2_with fail
  refine (epart_any 10 1 1024 2 imm _ i0 i1 (by omega) (by omega) (by omega) rfl rfl).mono ?_
  rintro e w11 ⟨rfl, hq⟩
  generalize hv : imm / 2 % 1024 = v8
  have HV8 : Hid (imm / 2 % 1024 = v8) := by show _ = _; omega
  have hv8 : 0 ≤ v8 ∧ v8 < 1024 := by omega
  clear hv
  have hW11 : Hid (Below w.heap.size w w11) := Below.trans hW10.out ((hq.below _).mono hW10.out.size)
  have HS11 : Hid (SixC w11 w.heap.size ((j : Int) + 1) rd rs1 rs2 imm csr) := SixC.on HS10.out (hq.below _)
  clear hq c0 c1 c2 c3 c4 c5 HS10 hW10
  obtain ⟨c0, c1, c2, c3, c4, c5⟩ := HS11.out
  have hz : x7 / 2097152 % 1024 = 0 := by
    have q0 := HV1.out
    have q1 := HV3.out
    have q2 := HV5.out
    have q3 := HV7.out
    exact free_of x7 2097152 1024 (v2 * 1) (m * 1 + rd * 128 + v4 * 4096 + v6 * 1048576) (by omega) (by omega) (by omega) (by omega)
  have HZ : Hid (x7 / 2097152 % 1024 = 0) := hz
  clear hz
  go_wp2_with fail
  refine (eput_any 30 21 1024 2097152 v8 x7 _ y10 z10 (by omega) (by omega) (by omega) (by omega) (by omega) rfl rfl HZ.out).mono ?_
  clear HZ
  rintro e w12 ⟨rfl, hq, y12, z12⟩
  generalize hv : x7 + v8 % 1024 * 2097152 = x9 at y12 z12 ⊢
  have HV9 : Hid (x7 + v8 * 2097152 = x9) := by show _ = _; omega
  clear hv
  have hW12 : Hid (Below w.heap.size w w12) := Below.trans hW11.out ((hq.below _).mono hW11.out.size)
  have HS12 : Hid (SixC w12 w.heap.size ((j : Int) + 1) rd rs1 rs2 imm csr) := SixC.on HS11.out (hq.below _)
  clear hq c0 c1 c2 c3 c4 c5 HS11 hW11
  obtain ⟨c0, c1, c2, c3, c4, c5⟩ := HS12.out
  go_wp2
  go_ret2
  refine ⟨ret_pairb ?_, hW12.out⟩
  unfold encOf headOf
  rw [HL.out, HK.out, show immPut 2 imm = imm / 1048576 % 2 * 2147483648 + imm / 2 % 1024 * 2097152 + imm / 2048 % 2 * 1048576 + imm / 4096 % 256 * 4096 from rfl, HV2.out, HV4.out, HV6.out, HV8.out]
  have q0 := HV1.out
  have q1 := HV3.out
  have q2 := HV5.out
  have q3 := HV7.out
  have q4 := HV9.out
  have q5 := HX.out
  omega

end Go.Proofs.YthgolbmngjdbeaaGreatDoor

/- Layer 4: the document's own Encode, form by form. -/
namespace Go.Proofs.YthgolbmngjdbeaaGreatDoor
open Go.RowKit
set_option linter.unusedVariables false

set_option maxHeartbeats 1000000 in
theorem renc_3 (j : Nat) (hz : formZ (j + 1) = 3) (rd rs1 rs2 imm csr : Int) (w : World) (hj : j < 57) (i0 : 0 ≤ imm) (i1 : imm < 4294967296) (hr : rightOf (formZ (j + 1)) rd rs1 rs2 imm csr = true) :
    Calls Tryz.prog 32 #[.agg #[.int .i64 ((j : Int) + 1), .int .i64 rd, .int .i64 rs1, .int .i64 rs2, .int .u32 imm, .int .i64 csr]] w fun e w' => e = .returned (.tuple #[.int .u32 (encOf (j + 1) rd rs1 rs2 imm csr), .bool true]) ∧ Below w.heap.size w w' := by
  have hn : ((j : Int) + 1 == 0) = false := eneb (show j + 1 ≠ 0 by omega)
  have HR : Hid (∀ w, Calls Tryz.prog 57 #[.agg #[.int .i64 ((j : Int) + 1), .int .i64 rd, .int .i64 rs1, .int .i64 rs2, .int .u32 imm, .int .i64 csr]] w fun e w' => e = .returned (.bool true) ∧ Below w.heap.size w w') := fun w => by
    have := rright_yes (j + 1) rd rs1 rs2 imm csr w (by omega) i0 i1
    rw [hr] at this
    exact this
  obtain ⟨⟨m0, m1⟩, ⟨a0, a1⟩, ⟨b0, b1⟩, ⟨d0, d1⟩, ⟨e0, e1⟩, _⟩ := enc_puts (j + 1) (by omega) (by omega) rd rs1 rs2 imm csr _ rfl hr
  obtain ⟨p1, p2, p3, p4, _⟩ := right_parts _ _ _ _ _ _ hr
  have n1 := match_p1 (j + 1) (by omega) (by omega)
  have n2 := match_p2 (j + 1) (by omega) (by omega)
  have n3 := match_p3 (j + 1) (by omega) (by omega)
  clear hr
  generalize hm : matchL.getD (j + 1 - 1) 0 = m at *
  have HL : Hid (matchL.getD (j + 1 - 1) 0 = m) := hm
  clear hm
  have hff := hz
  rw [hz] at n1 n2 n3 p1 p2 p3 p4
  have HK : Hid (formZ (j + 1) = 3) := hff
  have HF : Hid (∀ w, Calls Tryz.prog 30 #[.int .i64 ((j : Int) + 1)] w fun e w' => e = .returned (.int .i64 3) ∧ w' = w) := fun w => by
    have := rform_any (j + 1) (by omega) w
    rw [hff] at this
    exact this
  clear hff hz
  have HM : Hid _ := And.intro n1 (And.intro n2 n3)
  have HP : Hid _ := And.intro p1 (And.intro p2 (And.intro p3 p4))
  clear n1 n2 n3 p1 p2 p3 p4
  have hS : SixC (w.alloc (.cells #[.int .i64 ((j : Int) + 1), .int .i64 rd, .int .i64 rs1, .int .i64 rs2, .int .u32 imm, .int .i64 csr] 30)) w.heap.size ((j : Int) + 1) rd rs1 rs2 imm csr := sixC_new w _ rfl _ _ _ _ _ _ _
  have hW : Below w.heap.size w (w.alloc (.cells #[.int .i64 ((j : Int) + 1), .int .i64 rd, .int .i64 rs1, .int .i64 rs2, .int .u32 imm, .int .i64 csr] 30)) := (Below.refl _ _).alloc (Nat.le_refl _) _
  have HS : Hid (SixC (w.alloc (.cells #[.int .i64 ((j : Int) + 1), .int .i64 rd, .int .i64 rs1, .int .i64 rs2, .int .u32 imm, .int .i64 csr] 30)) w.heap.size ((j : Int) + 1) rd rs1 rs2 imm csr) := hS
  clear hS
  have g0 : (0 : Int) ≤ (j : Int) := by omega
  have g1 : (j : Int) < 57 := by omega
  have g2 : IntKind.i64.wrap (j : Int) = j := by rw [IntKind.wrap_i64]; omega
  have g3 : IntKind.i64.wrap ((j : Int) + 1 - 1) = j := by rw [IntKind.wrap_i64]; omega
  go_enter Tryz.func32, Tryz.ntmps32
  go_wp2_with fail
  generalize (w.alloc (.cells #[.int .i64 ((j : Int) + 1), .int .i64 rd, .int .i64 rs1, .int .i64 rs2, .int .u32 imm, .int .i64 csr] 30)) = W at *
  refine (HR.out _).mono ?_
  rintro e w1 ⟨rfl, hb⟩
  have HS1 : Hid _ := HS.out.on hb
  have hW1 : Hid (Below w.heap.size w w1) := hW.trans (hb.mono hW.size)
  clear HS hb hW
  obtain ⟨c0, c1, c2, c3, c4, c5⟩ := HS1.out
  go_wp2_with fail
  refine (HF.out _).mono ?_
  rintro e w2 ⟨rfl, hw⟩
  have hw := hw.symm
  subst hw
  go_wp2_with fail
  go_region_with (first | (go_at_call 58; refine (patt_any j hj _).mono ?_; rintro e w3 ⟨rfl, hb3, hc⟩; rw [show matchL.getD j 0 = m from HL.out] at hc; have hc : w3.cell? ⟨w1.heap.size, j * 2 + 1, none⟩ = some (.int .u32 m) := hc; have hW3 : Hid (Below w.heap.size w w3) := Below.trans hW1.out.drew (hb3.mono hW1.out.size); have HS3 : Hid _ := SixC.on (SixC.on HS1.out ((Below.refl w1.heap.size w1).drew)) hb3; have k0 := HS3.out.1; clear hb3))
  all_goals (try clear e)
  all_goals (clear k0 hc; revert HS3; revert hW3; revert w3)
  refine ?key
  rotate_left
  exact ?key
  intro w3 _ hW3 HS3
  obtain ⟨n1, n2, n3⟩ := HM.out
  obtain ⟨p1, p2, p3, p4⟩ := HP.out
  clear HM HP HR HF HS1 hW1 c0 c1 c2 c3 c4 c5 g2 g3 hn
  have HX : Hid (True ∧ True ∧ rs2 = 0 ∧ csr = 0) := ⟨trivial, trivial, partB_n p3, partB_n p4⟩
  obtain ⟨m3, m7, hm, ⟨_, _⟩, _, _⟩ := m_split2 m m0 (n2 (by simp))
  have HM : Hid (m = m3 * 4096 + m7) := hm
  clear hm
  clear n1 n2 n3 p1 p2 p3 p4
  obtain ⟨c0, c1, c2, c3, c4, c5⟩ := HS3.out
  have hz : m / 128 % 32 = 0 := by
    have q0 := HM.out
    exact free_of m 128 32 (m3 * 1) (m7 * 1) (by omega) (by omega) (by omega) (by omega)
  have HZ : Hid (m / 128 % 32 = 0) := hz
  clear hz
  go_wp2_with fail
  refine (eput_any 11 7 32 128 rd m _ m0 m1 (by omega) (by omega) (by omega) (by omega) (by omega) rfl rfl HZ.out).mono ?_
  clear HZ
  rintro e w4 ⟨rfl, hq, y4, z4⟩
  generalize hv : m + rd % 32 * 128 = x1 at y4 z4 ⊢
  have HV1 : Hid (m + rd * 128 = x1) := by show _ = _; omega
  clear hv
  have hW4 : Hid (Below w.heap.size w w4) := Below.trans hW3.out ((hq.below _).mono hW3.out.size)
  have HS4 : Hid (SixC w4 w.heap.size ((j : Int) + 1) rd rs1 rs2 imm csr) := SixC.on HS3.out (hq.below _)
  clear hq c0 c1 c2 c3 c4 c5 HS3 hW3
  obtain ⟨c0, c1, c2, c3, c4, c5⟩ := HS4.out
  have hz : x1 / 32768 % 32 = 0 := by
    have q0 := HM.out
    have q1 := HV1.out
    exact free_of x1 32768 32 (0) (m7 * 1 + m3 * 4096 + rd * 128) (by omega) (by omega) (by omega) (by omega)
  have HZ : Hid (x1 / 32768 % 32 = 0) := hz
  clear hz
  go_wp2_with fail
  refine (eput_any 19 15 32 32768 rs1 x1 _ y4 z4 (by omega) (by omega) (by omega) (by omega) (by omega) rfl rfl HZ.out).mono ?_
  clear HZ
  rintro e w5 ⟨rfl, hq, y5, z5⟩
  generalize hv : x1 + rs1 % 32 * 32768 = x2 at y5 z5 ⊢
  have HV2 : Hid (x1 + rs1 * 32768 = x2) := by show _ = _; omega
  clear hv
  have hW5 : Hid (Below w.heap.size w w5) := Below.trans hW4.out ((hq.below _).mono hW4.out.size)
  have HS5 : Hid (SixC w5 w.heap.size ((j : Int) + 1) rd rs1 rs2 imm csr) := SixC.on HS4.out (hq.below _)
  clear hq c0 c1 c2 c3 c4 c5 HS4 hW4
  obtain ⟨c0, c1, c2, c3, c4, c5⟩ := HS5.out
  go_wp2_with fail
  refine (epart_any 11 0 4096 1 imm _ i0 i1 (by omega) (by omega) (by omega) rfl rfl).mono ?_
  rintro e w6 ⟨rfl, hq⟩
  generalize hv : imm / 1 % 4096 = v3
  have HV3 : Hid (imm % 4096 = v3) := by show _ = _; omega
  have hv3 : 0 ≤ v3 ∧ v3 < 4096 := by omega
  clear hv
  have hW6 : Hid (Below w.heap.size w w6) := Below.trans hW5.out ((hq.below _).mono hW5.out.size)
  have HS6 : Hid (SixC w6 w.heap.size ((j : Int) + 1) rd rs1 rs2 imm csr) := SixC.on HS5.out (hq.below _)
  clear hq c0 c1 c2 c3 c4 c5 HS5 hW5
  obtain ⟨c0, c1, c2, c3, c4, c5⟩ := HS6.out
  have hz : x2 / 1048576 % 4096 = 0 := by
    have q0 := HM.out
    have q1 := HV1.out
    have q2 := HV2.out
    exact free_of x2 1048576 4096 (0) (m7 * 1 + m3 * 4096 + rd * 128 + rs1 * 32768) (by omega) (by omega) (by omega) (by omega)
  have HZ : Hid (x2 / 1048576 % 4096 = 0) := hz
  clear hz
  go_wp2_with fail
  refine (eput_any 31 20 4096 1048576 v3 x2 _ y5 z5 (by omega) (by omega) (by omega) (by omega) (by omega) rfl rfl HZ.out).mono ?_
  clear HZ
  rintro e w7 ⟨rfl, hq, y7, z7⟩
  generalize hv : x2 + v3 % 4096 * 1048576 = x4 at y7 z7 ⊢
  have HV4 : Hid (x2 + v3 * 1048576 = x4) := by show _ = _; omega
  clear hv
  have hW7 : Hid (Below w.heap.size w w7) := Below.trans hW6.out ((hq.below _).mono hW6.out.size)
  have HS7 : Hid (SixC w7 w.heap.size ((j : Int) + 1) rd rs1 rs2 imm csr) := SixC.on HS6.out (hq.below _)
  clear hq c0 c1 c2 c3 c4 c5 HS6 hW6
  obtain ⟨c0, c1, c2, c3, c4, c5⟩ := HS7.out
  go_wp2
  go_ret2
  refine ⟨ret_pairb ?_, hW7.out⟩
  unfold encOf headOf
  rw [HL.out, HK.out, show immPut 3 imm = imm % 4096 * 1048576 from rfl, HV3.out]
  have q0 := HM.out
  have q1 := HV1.out
  have q2 := HV2.out
  have q3 := HV4.out
  have q4 := HX.out
  omega

end Go.Proofs.YthgolbmngjdbeaaGreatDoor

/- Layer 4: the document's own Encode, form by form. -/
namespace Go.Proofs.YthgolbmngjdbeaaGreatDoor
open Go.RowKit
set_option linter.unusedVariables false

theorem b_last (m m3 m7 rs1 rs2 v3 v5 v7 x1 x2 x4 x6 x8 : Int) (q0 : m = m3 * 4096 + m7) (q1 : m + rs1 * 32768 = x1) (q2 : x1 + rs2 * 1048576 = x2) (q3 : x2 + v3 * 2147483648 = x4) (q4 : x4 + v5 * 128 = x6) (q5 : x6 + v7 * 33554432 = x8)
    (h0 : 0 ≤ m7) (h1 : m7 < 128) (h2 : 0 ≤ v5) (h3 : v5 < 2) : x8 / 256 % 16 = 0 := by
  subst q0 q1 q2 q3 q4 q5
  exact free_of _ 256 16 (m3 * 1 + rs1 * 8 + rs2 * 256 + v3 * 524288 + v7 * 8192) (m7 * 1 + v5 * 128) (by decide) (by omega) (by omega) (by omega)

set_option maxHeartbeats 1000000 in
theorem renc_4 (j : Nat) (hz : formZ (j + 1) = 4) (rd rs1 rs2 imm csr : Int) (w : World) (hj : j < 57) (i0 : 0 ≤ imm) (i1 : imm < 4294967296) (hr : rightOf (formZ (j + 1)) rd rs1 rs2 imm csr = true) :
    Calls Tryz.prog 32 #[.agg #[.int .i64 ((j : Int) + 1), .int .i64 rd, .int .i64 rs1, .int .i64 rs2, .int .u32 imm, .int .i64 csr]] w fun e w' => e = .returned (.tuple #[.int .u32 (encOf (j + 1) rd rs1 rs2 imm csr), .bool true]) ∧ Below w.heap.size w w' := by
  have hn : ((j : Int) + 1 == 0) = false := eneb (show j + 1 ≠ 0 by omega)
  have HR : Hid (∀ w, Calls Tryz.prog 57 #[.agg #[.int .i64 ((j : Int) + 1), .int .i64 rd, .int .i64 rs1, .int .i64 rs2, .int .u32 imm, .int .i64 csr]] w fun e w' => e = .returned (.bool true) ∧ Below w.heap.size w w') := fun w => by
    have := rright_yes (j + 1) rd rs1 rs2 imm csr w (by omega) i0 i1
    rw [hr] at this
    exact this
  obtain ⟨⟨m0, m1⟩, ⟨a0, a1⟩, ⟨b0, b1⟩, ⟨d0, d1⟩, ⟨e0, e1⟩, _⟩ := enc_puts (j + 1) (by omega) (by omega) rd rs1 rs2 imm csr _ rfl hr
  obtain ⟨p1, p2, p3, p4, _⟩ := right_parts _ _ _ _ _ _ hr
  have n1 := match_p1 (j + 1) (by omega) (by omega)
  have n2 := match_p2 (j + 1) (by omega) (by omega)
  have n3 := match_p3 (j + 1) (by omega) (by omega)
  clear hr
  generalize hm : matchL.getD (j + 1 - 1) 0 = m at *
  have HL : Hid (matchL.getD (j + 1 - 1) 0 = m) := hm
  clear hm
  have hff := hz
  rw [hz] at n1 n2 n3 p1 p2 p3 p4
  have HK : Hid (formZ (j + 1) = 4) := hff
  have HF : Hid (∀ w, Calls Tryz.prog 30 #[.int .i64 ((j : Int) + 1)] w fun e w' => e = .returned (.int .i64 4) ∧ w' = w) := fun w => by
    have := rform_any (j + 1) (by omega) w
    rw [hff] at this
    exact this
  clear hff hz
  have HM : Hid _ := And.intro n1 (And.intro n2 n3)
  have HP : Hid _ := And.intro p1 (And.intro p2 (And.intro p3 p4))
  clear n1 n2 n3 p1 p2 p3 p4
  have hS : SixC (w.alloc (.cells #[.int .i64 ((j : Int) + 1), .int .i64 rd, .int .i64 rs1, .int .i64 rs2, .int .u32 imm, .int .i64 csr] 30)) w.heap.size ((j : Int) + 1) rd rs1 rs2 imm csr := sixC_new w _ rfl _ _ _ _ _ _ _
  have hW : Below w.heap.size w (w.alloc (.cells #[.int .i64 ((j : Int) + 1), .int .i64 rd, .int .i64 rs1, .int .i64 rs2, .int .u32 imm, .int .i64 csr] 30)) := (Below.refl _ _).alloc (Nat.le_refl _) _
  have HS : Hid (SixC (w.alloc (.cells #[.int .i64 ((j : Int) + 1), .int .i64 rd, .int .i64 rs1, .int .i64 rs2, .int .u32 imm, .int .i64 csr] 30)) w.heap.size ((j : Int) + 1) rd rs1 rs2 imm csr) := hS
  clear hS
  have g0 : (0 : Int) ≤ (j : Int) := by omega
  have g1 : (j : Int) < 57 := by omega
  have g2 : IntKind.i64.wrap (j : Int) = j := by rw [IntKind.wrap_i64]; omega
  have g3 : IntKind.i64.wrap ((j : Int) + 1 - 1) = j := by rw [IntKind.wrap_i64]; omega
  go_enter Tryz.func32, Tryz.ntmps32
  go_wp2_with fail
  generalize (w.alloc (.cells #[.int .i64 ((j : Int) + 1), .int .i64 rd, .int .i64 rs1, .int .i64 rs2, .int .u32 imm, .int .i64 csr] 30)) = W at *
  refine (HR.out _).mono ?_
  rintro e w1 ⟨rfl, hb⟩
  have HS1 : Hid _ := HS.out.on hb
  have hW1 : Hid (Below w.heap.size w w1) := hW.trans (hb.mono hW.size)
  clear HS hb hW
  obtain ⟨c0, c1, c2, c3, c4, c5⟩ := HS1.out
  go_wp2_with fail
  refine (HF.out _).mono ?_
  rintro e w2 ⟨rfl, hw⟩
  have hw := hw.symm
  subst hw
  go_wp2_with fail
  go_region_with (first | (go_at_call 58; refine (patt_any j hj _).mono ?_; rintro e w3 ⟨rfl, hb3, hc⟩; rw [show matchL.getD j 0 = m from HL.out] at hc; have hc : w3.cell? ⟨w1.heap.size, j * 2 + 1, none⟩ = some (.int .u32 m) := hc; have hW3 : Hid (Below w.heap.size w w3) := Below.trans hW1.out.drew (hb3.mono hW1.out.size); have HS3 : Hid _ := SixC.on (SixC.on HS1.out ((Below.refl w1.heap.size w1).drew)) hb3; have k0 := HS3.out.1; clear hb3))
  all_goals (try clear e)
  all_goals (clear k0 hc; revert HS3; revert hW3; revert w3)
  refine ?key
  rotate_left
  exact ?key
  intro w3 _ hW3 HS3
  obtain ⟨n1, n2, n3⟩ := HM.out
  obtain ⟨p1, p2, p3, p4⟩ := HP.out
  clear HM HP HR HF HS1 hW1 c0 c1 c2 c3 c4 c5 g2 g3 hn
  have HX : Hid (rd = 0 ∧ True ∧ True ∧ csr = 0) := ⟨partB_n p1, trivial, trivial, partB_n p4⟩
  obtain ⟨m3, m7, hm, hm3, hm7⟩ := m_split2 m m0 (n2 (by simp))
  have HM : Hid (m = m3 * 4096 + m7) := hm
  have H3 : Hid (0 ≤ m3 ∧ m3 < 8) := hm3
  have H7 : Hid (0 ≤ m7 ∧ m7 < 128) := hm7
  clear hm hm3 hm7
  clear n1 n2 n3 p1 p2 p3 p4
  obtain ⟨c0, c1, c2, c3, c4, c5⟩ := HS3.out
  have hz : m / 32768 % 32 = 0 := by
    have r_3 := H3.out
    have r_7 := H7.out
    have l0 : 0 ≤ m7 * 1 + m3 * 4096 := by omega
    have l1 : m7 * 1 + m3 * 4096 < 32768 := by omega
    have q0 := HM.out
    exact free_of m 32768 32 (0) (m7 * 1 + m3 * 4096) (by decide) (by omega) l0 l1
  have HZ : Hid (m / 32768 % 32 = 0) := hz
  clear hz
  go_wp2_with fail
  refine (eput_any 19 15 32 32768 rs1 m _ m0 m1 b0 (Int.lt_trans b1 (by decide)) (by decide) (by decide) (by decide) rfl rfl HZ.out).mono ?_
  clear HZ
  rintro e w4 ⟨rfl, hq, y4, z4⟩
  generalize hv : m + rs1 % 32 * 32768 = x1 at y4 z4 ⊢
  have YZ4 : Hid (0 ≤ x1 ∧ x1 < 4294967296) := ⟨y4, z4⟩
  clear y4 z4
  have HV1 : Hid (m + rs1 * 32768 = x1) := by show _ = _; rw [← hv, Int.emod_eq_of_lt b0 b1]
  clear hv
  have hW4 : Hid (Below w.heap.size w w4) := Below.trans hW3.out ((hq.below _).mono hW3.out.size)
  have HS4 : Hid (SixC w4 w.heap.size ((j : Int) + 1) rd rs1 rs2 imm csr) := SixC.on HS3.out (hq.below _)
  clear hq c0 c1 c2 c3 c4 c5 HS3 hW3
  obtain ⟨c0, c1, c2, c3, c4, c5⟩ := HS4.out
  have hz : x1 / 1048576 % 32 = 0 := by
    have r_3 := H3.out
    have r_7 := H7.out
    have l0 : 0 ≤ m7 * 1 + m3 * 4096 + rs1 * 32768 := by omega
    have l1 : m7 * 1 + m3 * 4096 + rs1 * 32768 < 1048576 := by omega
    have q0 := HM.out
    have q1 := HV1.out
    exact free_of x1 1048576 32 (0) (m7 * 1 + m3 * 4096 + rs1 * 32768) (by decide) (by omega) l0 l1
  have HZ : Hid (x1 / 1048576 % 32 = 0) := hz
  clear hz
  go_wp2_with fail
  refine (eput_any 24 20 32 1048576 rs2 x1 _ YZ4.out.1 YZ4.out.2 d0 (Int.lt_trans d1 (by decide)) (by decide) (by decide) (by decide) rfl rfl HZ.out).mono ?_
  clear HZ
  rintro e w5 ⟨rfl, hq, y5, z5⟩
  generalize hv : x1 + rs2 % 32 * 1048576 = x2 at y5 z5 ⊢
  have YZ5 : Hid (0 ≤ x2 ∧ x2 < 4294967296) := ⟨y5, z5⟩
  clear y5 z5
  have HV2 : Hid (x1 + rs2 * 1048576 = x2) := by show _ = _; rw [← hv, Int.emod_eq_of_lt d0 d1]
  clear hv
  have hW5 : Hid (Below w.heap.size w w5) := Below.trans hW4.out ((hq.below _).mono hW4.out.size)
  have HS5 : Hid (SixC w5 w.heap.size ((j : Int) + 1) rd rs1 rs2 imm csr) := SixC.on HS4.out (hq.below _)
  clear hq c0 c1 c2 c3 c4 c5 HS4 hW4
  obtain ⟨c0, c1, c2, c3, c4, c5⟩ := HS5.out
  go_wp2_with fail
  refine (epart_any 12 12 2 4096 imm _ i0 i1 (by omega) (by omega) (by omega) rfl rfl).mono ?_
  rintro e w6 ⟨rfl, hq⟩
  generalize hv : imm / 4096 % 2 = v3
  have HV3 : Hid (imm / 4096 % 2 = v3) := hv
  have hv3 : Hid (0 ≤ v3 ∧ v3 < 2) := by show _ ∧ _; rw [← hv]; exact ⟨Int.emod_nonneg _ (by decide), Int.emod_lt_of_pos _ (by decide)⟩
  clear hv
  have hW6 : Hid (Below w.heap.size w w6) := Below.trans hW5.out ((hq.below _).mono hW5.out.size)
  have HS6 : Hid (SixC w6 w.heap.size ((j : Int) + 1) rd rs1 rs2 imm csr) := SixC.on HS5.out (hq.below _)
  clear hq c0 c1 c2 c3 c4 c5 HS5 hW5
  obtain ⟨c0, c1, c2, c3, c4, c5⟩ := HS6.out
  have hz : x2 / 2147483648 % 2 = 0 := by
    have r_3 := H3.out
    have r_7 := H7.out
    have l0 : 0 ≤ m7 * 1 + m3 * 4096 + rs1 * 32768 + rs2 * 1048576 := by omega
    have l1 : m7 * 1 + m3 * 4096 + rs1 * 32768 + rs2 * 1048576 < 2147483648 := by omega
    have q0 := HM.out
    have q1 := HV1.out
    have q2 := HV2.out
    exact free_of x2 2147483648 2 (0) (m7 * 1 + m3 * 4096 + rs1 * 32768 + rs2 * 1048576) (by decide) (by omega) l0 l1
  have HZ : Hid (x2 / 2147483648 % 2 = 0) := hz
  clear hz
  go_wp2_with fail
  refine (eput_any 31 31 2 2147483648 v3 x2 _ YZ5.out.1 YZ5.out.2 hv3.out.1 (Int.lt_trans hv3.out.2 (by decide)) (by decide) (by decide) (by decide) rfl rfl HZ.out).mono ?_
  clear HZ
  rintro e w7 ⟨rfl, hq, y7, z7⟩
  generalize hv : x2 + v3 % 2 * 2147483648 = x4 at y7 z7 ⊢
  have YZ7 : Hid (0 ≤ x4 ∧ x4 < 4294967296) := ⟨y7, z7⟩
  clear y7 z7
  have HV4 : Hid (x2 + v3 * 2147483648 = x4) := by show _ = _; rw [← hv, Int.emod_eq_of_lt hv3.out.1 hv3.out.2]
  clear hv
  have hW7 : Hid (Below w.heap.size w w7) := Below.trans hW6.out ((hq.below _).mono hW6.out.size)
  have HS7 : Hid (SixC w7 w.heap.size ((j : Int) + 1) rd rs1 rs2 imm csr) := SixC.on HS6.out (hq.below _)
  clear hq c0 c1 c2 c3 c4 c5 HS6 hW6
  obtain ⟨c0, c1, c2, c3, c4, c5⟩ := HS7.out
  go_wp2_with fail
  refine (epart_any 11 11 2 2048 imm _ i0 i1 (by omega) (by omega) (by omega) rfl rfl).mono ?_
  rintro e w8 ⟨rfl, hq⟩
  generalize hv : imm / 2048 % 2 = v5
  have HV5 : Hid (imm / 2048 % 2 = v5) := hv
  have hv5 : Hid (0 ≤ v5 ∧ v5 < 2) := by show _ ∧ _; rw [← hv]; exact ⟨Int.emod_nonneg _ (by decide), Int.emod_lt_of_pos _ (by decide)⟩
  clear hv
  have hW8 : Hid (Below w.heap.size w w8) := Below.trans hW7.out ((hq.below _).mono hW7.out.size)
  have HS8 : Hid (SixC w8 w.heap.size ((j : Int) + 1) rd rs1 rs2 imm csr) := SixC.on HS7.out (hq.below _)
  clear hq c0 c1 c2 c3 c4 c5 HS7 hW7
  obtain ⟨c0, c1, c2, c3, c4, c5⟩ := HS8.out
  have hz : x4 / 128 % 2 = 0 := by
    have r_3 := H3.out
    have r_7 := H7.out
    have r3 := hv3.out
    have l0 : 0 ≤ m7 * 1 := by omega
    have l1 : m7 * 1 < 128 := by omega
    have q0 := HM.out
    have q1 := HV1.out
    have q2 := HV2.out
    have q3 := HV4.out
    exact free_of x4 128 2 (m3 * 16 + rs1 * 128 + rs2 * 4096 + v3 * 8388608) (m7 * 1) (by decide) (by omega) l0 l1
  have HZ : Hid (x4 / 128 % 2 = 0) := hz
  clear hz
  go_wp2_with fail
  refine (eput_any 7 7 2 128 v5 x4 _ YZ7.out.1 YZ7.out.2 hv5.out.1 (Int.lt_trans hv5.out.2 (by decide)) (by decide) (by decide) (by decide) rfl rfl HZ.out).mono ?_
  clear HZ
  rintro e w9 ⟨rfl, hq, y9, z9⟩
  generalize hv : x4 + v5 % 2 * 128 = x6 at y9 z9 ⊢
  have YZ9 : Hid (0 ≤ x6 ∧ x6 < 4294967296) := ⟨y9, z9⟩
  clear y9 z9
  have HV6 : Hid (x4 + v5 * 128 = x6) := by show _ = _; rw [← hv, Int.emod_eq_of_lt hv5.out.1 hv5.out.2]
  clear hv
  have hW9 : Hid (Below w.heap.size w w9) := Below.trans hW8.out ((hq.below _).mono hW8.out.size)
  have HS9 : Hid (SixC w9 w.heap.size ((j : Int) + 1) rd rs1 rs2 imm csr) := SixC.on HS8.out (hq.below _)
  clear hq c0 c1 c2 c3 c4 c5 HS8 hW8
  obtain ⟨c0, c1, c2, c3, c4, c5⟩ := HS9.out
  go_wp2_with fail
  refine (epart_any 10 5 64 32 imm _ i0 i1 (by omega) (by omega) (by omega) rfl rfl).mono ?_
  rintro e w10 ⟨rfl, hq⟩
  generalize hv : imm / 32 % 64 = v7
  have HV7 : Hid (imm / 32 % 64 = v7) := hv
  have hv7 : Hid (0 ≤ v7 ∧ v7 < 64) := by show _ ∧ _; rw [← hv]; exact ⟨Int.emod_nonneg _ (by decide), Int.emod_lt_of_pos _ (by decide)⟩
  clear hv
  have hW10 : Hid (Below w.heap.size w w10) := Below.trans hW9.out ((hq.below _).mono hW9.out.size)
  have HS10 : Hid (SixC w10 w.heap.size ((j : Int) + 1) rd rs1 rs2 imm csr) := SixC.on HS9.out (hq.below _)
  clear hq c0 c1 c2 c3 c4 c5 HS9 hW9
  obtain ⟨c0, c1, c2, c3, c4, c5⟩ := HS10.out
  have hz : x6 / 33554432 % 64 = 0 := by
    have r_3 := H3.out
    have r_7 := H7.out
    have r3 := hv3.out
    have r5 := hv5.out
    have l0 : 0 ≤ m7 * 1 + m3 * 4096 + rs1 * 32768 + rs2 * 1048576 + v5 * 128 := by omega
    have l1 : m7 * 1 + m3 * 4096 + rs1 * 32768 + rs2 * 1048576 + v5 * 128 < 33554432 := by omega
    have q0 := HM.out
    have q1 := HV1.out
    have q2 := HV2.out
    have q3 := HV4.out
    have q4 := HV6.out
    exact free_of x6 33554432 64 (v3 * 1) (m7 * 1 + m3 * 4096 + rs1 * 32768 + rs2 * 1048576 + v5 * 128) (by decide) (by omega) l0 l1
  have HZ : Hid (x6 / 33554432 % 64 = 0) := hz
  clear hz
  go_wp2_with fail
  refine (eput_any 30 25 64 33554432 v7 x6 _ YZ9.out.1 YZ9.out.2 hv7.out.1 (Int.lt_trans hv7.out.2 (by decide)) (by decide) (by decide) (by decide) rfl rfl HZ.out).mono ?_
  clear HZ
  rintro e w11 ⟨rfl, hq, y11, z11⟩
  generalize hv : x6 + v7 % 64 * 33554432 = x8 at y11 z11 ⊢
  have YZ11 : Hid (0 ≤ x8 ∧ x8 < 4294967296) := ⟨y11, z11⟩
  clear y11 z11
  have HV8 : Hid (x6 + v7 * 33554432 = x8) := by show _ = _; rw [← hv, Int.emod_eq_of_lt hv7.out.1 hv7.out.2]
  clear hv
  have hW11 : Hid (Below w.heap.size w w11) := Below.trans hW10.out ((hq.below _).mono hW10.out.size)
  have HS11 : Hid (SixC w11 w.heap.size ((j : Int) + 1) rd rs1 rs2 imm csr) := SixC.on HS10.out (hq.below _)
  clear hq c0 c1 c2 c3 c4 c5 HS10 hW10
  obtain ⟨c0, c1, c2, c3, c4, c5⟩ := HS11.out
  go_wp2_with fail
  refine (epart_any 4 1 16 2 imm _ i0 i1 (by omega) (by omega) (by omega) rfl rfl).mono ?_
  rintro e w12 ⟨rfl, hq⟩
  generalize hv : imm / 2 % 16 = v9
  have HV9 : Hid (imm / 2 % 16 = v9) := hv
  have hv9 : Hid (0 ≤ v9 ∧ v9 < 16) := by show _ ∧ _; rw [← hv]; exact ⟨Int.emod_nonneg _ (by decide), Int.emod_lt_of_pos _ (by decide)⟩
  clear hv
  have hW12 : Hid (Below w.heap.size w w12) := Below.trans hW11.out ((hq.below _).mono hW11.out.size)
  have HS12 : Hid (SixC w12 w.heap.size ((j : Int) + 1) rd rs1 rs2 imm csr) := SixC.on HS11.out (hq.below _)
  clear hq c0 c1 c2 c3 c4 c5 HS11 hW11
  obtain ⟨c0, c1, c2, c3, c4, c5⟩ := HS12.out
  have hz : x8 / 256 % 16 = 0 := b_last m m3 m7 rs1 rs2 v3 v5 v7 x1 x2 x4 x6 x8 HM.out HV1.out HV2.out HV4.out HV6.out HV8.out H7.out.1 H7.out.2 hv5.out.1 hv5.out.2
  have HZ : Hid (x8 / 256 % 16 = 0) := hz
  clear hz
  go_wp2_with fail
  refine (eput_any 11 8 16 256 v9 x8 _ YZ11.out.1 YZ11.out.2 hv9.out.1 (Int.lt_trans hv9.out.2 (by decide)) (by decide) (by decide) (by decide) rfl rfl HZ.out).mono ?_
  clear HZ
  rintro e w13 ⟨rfl, hq, y13, z13⟩
  generalize hv : x8 + v9 % 16 * 256 = x10 at y13 z13 ⊢
  have YZ13 : Hid (0 ≤ x10 ∧ x10 < 4294967296) := ⟨y13, z13⟩
  clear y13 z13
  have HV10 : Hid (x8 + v9 * 256 = x10) := by show _ = _; rw [← hv, Int.emod_eq_of_lt hv9.out.1 hv9.out.2]
  clear hv
  have hW13 : Hid (Below w.heap.size w w13) := Below.trans hW12.out ((hq.below _).mono hW12.out.size)
  have HS13 : Hid (SixC w13 w.heap.size ((j : Int) + 1) rd rs1 rs2 imm csr) := SixC.on HS12.out (hq.below _)
  clear hq c0 c1 c2 c3 c4 c5 HS12 hW12
  obtain ⟨c0, c1, c2, c3, c4, c5⟩ := HS13.out
  go_wp2
  go_ret2
  refine ⟨ret_pairb ?_, hW13.out⟩
  unfold encOf headOf
  rw [HL.out, HK.out, show immPut 4 imm = imm / 4096 % 2 * 2147483648 + imm / 32 % 64 * 33554432 + imm / 2 % 16 * 256 + imm / 2048 % 2 * 128 from rfl, HV3.out, HV5.out, HV7.out, HV9.out]
  have q0 := HM.out
  have q1 := HV1.out
  have q2 := HV2.out
  have q3 := HV4.out
  have q4 := HV6.out
  have q5 := HV8.out
  have q6 := HV10.out
  have q7 := HX.out
  omega

end Go.Proofs.YthgolbmngjdbeaaGreatDoor

/- Layer 4: the document's own Encode, form by form. -/
namespace Go.Proofs.YthgolbmngjdbeaaGreatDoor
open Go.RowKit
set_option linter.unusedVariables false

set_option maxHeartbeats 1000000 in
theorem renc_5 (j : Nat) (hz : formZ (j + 1) = 5) (rd rs1 rs2 imm csr : Int) (w : World) (hj : j < 57) (i0 : 0 ≤ imm) (i1 : imm < 4294967296) (hr : rightOf (formZ (j + 1)) rd rs1 rs2 imm csr = true) :
    Calls Tryz.prog 32 #[.agg #[.int .i64 ((j : Int) + 1), .int .i64 rd, .int .i64 rs1, .int .i64 rs2, .int .u32 imm, .int .i64 csr]] w fun e w' => e = .returned (.tuple #[.int .u32 (encOf (j + 1) rd rs1 rs2 imm csr), .bool true]) ∧ Below w.heap.size w w' := by
  have hn : ((j : Int) + 1 == 0) = false := eneb (show j + 1 ≠ 0 by omega)
  have HR : Hid (∀ w, Calls Tryz.prog 57 #[.agg #[.int .i64 ((j : Int) + 1), .int .i64 rd, .int .i64 rs1, .int .i64 rs2, .int .u32 imm, .int .i64 csr]] w fun e w' => e = .returned (.bool true) ∧ Below w.heap.size w w') := fun w => by
    have := rright_yes (j + 1) rd rs1 rs2 imm csr w (by omega) i0 i1
    rw [hr] at this
    exact this
  obtain ⟨⟨m0, m1⟩, ⟨a0, a1⟩, ⟨b0, b1⟩, ⟨d0, d1⟩, ⟨e0, e1⟩, _⟩ := enc_puts (j + 1) (by omega) (by omega) rd rs1 rs2 imm csr _ rfl hr
  obtain ⟨p1, p2, p3, p4, _⟩ := right_parts _ _ _ _ _ _ hr
  have n1 := match_p1 (j + 1) (by omega) (by omega)
  have n2 := match_p2 (j + 1) (by omega) (by omega)
  have n3 := match_p3 (j + 1) (by omega) (by omega)
  clear hr
  generalize hm : matchL.getD (j + 1 - 1) 0 = m at *
  have HL : Hid (matchL.getD (j + 1 - 1) 0 = m) := hm
  clear hm
  have hff := hz
  rw [hz] at n1 n2 n3 p1 p2 p3 p4
  have HK : Hid (formZ (j + 1) = 5) := hff
  have HF : Hid (∀ w, Calls Tryz.prog 30 #[.int .i64 ((j : Int) + 1)] w fun e w' => e = .returned (.int .i64 5) ∧ w' = w) := fun w => by
    have := rform_any (j + 1) (by omega) w
    rw [hff] at this
    exact this
  clear hff hz
  have HM : Hid _ := And.intro n1 (And.intro n2 n3)
  have HP : Hid _ := And.intro p1 (And.intro p2 (And.intro p3 p4))
  clear n1 n2 n3 p1 p2 p3 p4
  have hS : SixC (w.alloc (.cells #[.int .i64 ((j : Int) + 1), .int .i64 rd, .int .i64 rs1, .int .i64 rs2, .int .u32 imm, .int .i64 csr] 30)) w.heap.size ((j : Int) + 1) rd rs1 rs2 imm csr := sixC_new w _ rfl _ _ _ _ _ _ _
  have hW : Below w.heap.size w (w.alloc (.cells #[.int .i64 ((j : Int) + 1), .int .i64 rd, .int .i64 rs1, .int .i64 rs2, .int .u32 imm, .int .i64 csr] 30)) := (Below.refl _ _).alloc (Nat.le_refl _) _
  have HS : Hid (SixC (w.alloc (.cells #[.int .i64 ((j : Int) + 1), .int .i64 rd, .int .i64 rs1, .int .i64 rs2, .int .u32 imm, .int .i64 csr] 30)) w.heap.size ((j : Int) + 1) rd rs1 rs2 imm csr) := hS
  clear hS
  have g0 : (0 : Int) ≤ (j : Int) := by omega
  have g1 : (j : Int) < 57 := by omega
  have g2 : IntKind.i64.wrap (j : Int) = j := by rw [IntKind.wrap_i64]; omega
  have g3 : IntKind.i64.wrap ((j : Int) + 1 - 1) = j := by rw [IntKind.wrap_i64]; omega
  go_enter Tryz.func32, Tryz.ntmps32
  go_wp2_with fail
  generalize (w.alloc (.cells #[.int .i64 ((j : Int) + 1), .int .i64 rd, .int .i64 rs1, .int .i64 rs2, .int .u32 imm, .int .i64 csr] 30)) = W at *
  refine (HR.out _).mono ?_
  rintro e w1 ⟨rfl, hb⟩
  have HS1 : Hid _ := HS.out.on hb
  have hW1 : Hid (Below w.heap.size w w1) := hW.trans (hb.mono hW.size)
  clear HS hb hW
  obtain ⟨c0, c1, c2, c3, c4, c5⟩ := HS1.out
  go_wp2_with fail
  refine (HF.out _).mono ?_
  rintro e w2 ⟨rfl, hw⟩
  have hw := hw.symm
  subst hw
  go_wp2_with fail
  go_region_with (first | (go_at_call 58; refine (patt_any j hj _).mono ?_; rintro e w3 ⟨rfl, hb3, hc⟩; rw [show matchL.getD j 0 = m from HL.out] at hc; have hc : w3.cell? ⟨w1.heap.size, j * 2 + 1, none⟩ = some (.int .u32 m) := hc; have hW3 : Hid (Below w.heap.size w w3) := Below.trans hW1.out.drew (hb3.mono hW1.out.size); have HS3 : Hid _ := SixC.on (SixC.on HS1.out ((Below.refl w1.heap.size w1).drew)) hb3; have k0 := HS3.out.1; clear hb3))
  all_goals (try clear e)
  all_goals (clear k0 hc; revert HS3; revert hW3; revert w3)
  refine ?key
  rotate_left
  exact ?key
  intro w3 _ hW3 HS3
  obtain ⟨n1, n2, n3⟩ := HM.out
  obtain ⟨p1, p2, p3, p4⟩ := HP.out
  clear HM HP HR HF HS1 hW1 c0 c1 c2 c3 c4 c5 g2 g3 hn
  have HX : Hid (rd = 0 ∧ True ∧ True ∧ csr = 0) := ⟨partB_n p1, trivial, trivial, partB_n p4⟩
  obtain ⟨m3, m7, hm, ⟨_, _⟩, _, _⟩ := m_split2 m m0 (n2 (by simp))
  have HM : Hid (m = m3 * 4096 + m7) := hm
  clear hm
  clear n1 n2 n3 p1 p2 p3 p4
  obtain ⟨c0, c1, c2, c3, c4, c5⟩ := HS3.out
  have hz : m / 32768 % 32 = 0 := by
    have q0 := HM.out
    exact free_of m 32768 32 (0) (m7 * 1 + m3 * 4096) (by omega) (by omega) (by omega) (by omega)
  have HZ : Hid (m / 32768 % 32 = 0) := hz
  clear hz
  go_wp2_with fail
  refine (eput_any 19 15 32 32768 rs1 m _ m0 m1 (by omega) (by omega) (by omega) (by omega) (by omega) rfl rfl HZ.out).mono ?_
  clear HZ
  rintro e w4 ⟨rfl, hq, y4, z4⟩
  generalize hv : m + rs1 % 32 * 32768 = x1 at y4 z4 ⊢
  have HV1 : Hid (m + rs1 * 32768 = x1) := by show _ = _; omega
  clear hv
  have hW4 : Hid (Below w.heap.size w w4) := Below.trans hW3.out ((hq.below _).mono hW3.out.size)
  have HS4 : Hid (SixC w4 w.heap.size ((j : Int) + 1) rd rs1 rs2 imm csr) := SixC.on HS3.out (hq.below _)
  clear hq c0 c1 c2 c3 c4 c5 HS3 hW3
  obtain ⟨c0, c1, c2, c3, c4, c5⟩ := HS4.out
  have hz : x1 / 1048576 % 32 = 0 := by
    have q0 := HM.out
    have q1 := HV1.out
    exact free_of x1 1048576 32 (0) (m7 * 1 + m3 * 4096 + rs1 * 32768) (by omega) (by omega) (by omega) (by omega)
  have HZ : Hid (x1 / 1048576 % 32 = 0) := hz
  clear hz
  go_wp2_with fail
  refine (eput_any 24 20 32 1048576 rs2 x1 _ y4 z4 (by omega) (by omega) (by omega) (by omega) (by omega) rfl rfl HZ.out).mono ?_
  clear HZ
  rintro e w5 ⟨rfl, hq, y5, z5⟩
  generalize hv : x1 + rs2 % 32 * 1048576 = x2 at y5 z5 ⊢
  have HV2 : Hid (x1 + rs2 * 1048576 = x2) := by show _ = _; omega
  clear hv
  have hW5 : Hid (Below w.heap.size w w5) := Below.trans hW4.out ((hq.below _).mono hW4.out.size)
  have HS5 : Hid (SixC w5 w.heap.size ((j : Int) + 1) rd rs1 rs2 imm csr) := SixC.on HS4.out (hq.below _)
  clear hq c0 c1 c2 c3 c4 c5 HS4 hW4
  obtain ⟨c0, c1, c2, c3, c4, c5⟩ := HS5.out
  go_wp2_with fail
  refine (epart_any 11 5 128 32 imm _ i0 i1 (by omega) (by omega) (by omega) rfl rfl).mono ?_
  rintro e w6 ⟨rfl, hq⟩
  generalize hv : imm / 32 % 128 = v3
  have HV3 : Hid (imm / 32 % 128 = v3) := by show _ = _; omega
  have hv3 : 0 ≤ v3 ∧ v3 < 128 := by omega
  clear hv
  have hW6 : Hid (Below w.heap.size w w6) := Below.trans hW5.out ((hq.below _).mono hW5.out.size)
  have HS6 : Hid (SixC w6 w.heap.size ((j : Int) + 1) rd rs1 rs2 imm csr) := SixC.on HS5.out (hq.below _)
  clear hq c0 c1 c2 c3 c4 c5 HS5 hW5
  obtain ⟨c0, c1, c2, c3, c4, c5⟩ := HS6.out
  have hz : x2 / 33554432 % 128 = 0 := by
    have q0 := HM.out
    have q1 := HV1.out
    have q2 := HV2.out
    exact free_of x2 33554432 128 (0) (m7 * 1 + m3 * 4096 + rs1 * 32768 + rs2 * 1048576) (by omega) (by omega) (by omega) (by omega)
  have HZ : Hid (x2 / 33554432 % 128 = 0) := hz
  clear hz
  go_wp2_with fail
  refine (eput_any 31 25 128 33554432 v3 x2 _ y5 z5 (by omega) (by omega) (by omega) (by omega) (by omega) rfl rfl HZ.out).mono ?_
  clear HZ
  rintro e w7 ⟨rfl, hq, y7, z7⟩
  generalize hv : x2 + v3 % 128 * 33554432 = x4 at y7 z7 ⊢
  have HV4 : Hid (x2 + v3 * 33554432 = x4) := by show _ = _; omega
  clear hv
  have hW7 : Hid (Below w.heap.size w w7) := Below.trans hW6.out ((hq.below _).mono hW6.out.size)
  have HS7 : Hid (SixC w7 w.heap.size ((j : Int) + 1) rd rs1 rs2 imm csr) := SixC.on HS6.out (hq.below _)
  clear hq c0 c1 c2 c3 c4 c5 HS6 hW6
  obtain ⟨c0, c1, c2, c3, c4, c5⟩ := HS7.out
  go_wp2_with fail
  refine (epart_any 4 0 32 1 imm _ i0 i1 (by omega) (by omega) (by omega) rfl rfl).mono ?_
  rintro e w8 ⟨rfl, hq⟩
  generalize hv : imm / 1 % 32 = v5
  have HV5 : Hid (imm % 32 = v5) := by show _ = _; omega
  have hv5 : 0 ≤ v5 ∧ v5 < 32 := by omega
  clear hv
  have hW8 : Hid (Below w.heap.size w w8) := Below.trans hW7.out ((hq.below _).mono hW7.out.size)
  have HS8 : Hid (SixC w8 w.heap.size ((j : Int) + 1) rd rs1 rs2 imm csr) := SixC.on HS7.out (hq.below _)
  clear hq c0 c1 c2 c3 c4 c5 HS7 hW7
  obtain ⟨c0, c1, c2, c3, c4, c5⟩ := HS8.out
  have hz : x4 / 128 % 32 = 0 := by
    have q0 := HM.out
    have q1 := HV1.out
    have q2 := HV2.out
    have q3 := HV4.out
    exact free_of x4 128 32 (m3 * 1 + rs1 * 8 + rs2 * 256 + v3 * 8192) (m7 * 1) (by omega) (by omega) (by omega) (by omega)
  have HZ : Hid (x4 / 128 % 32 = 0) := hz
  clear hz
  go_wp2_with fail
  refine (eput_any 11 7 32 128 v5 x4 _ y7 z7 (by omega) (by omega) (by omega) (by omega) (by omega) rfl rfl HZ.out).mono ?_
  clear HZ
  rintro e w9 ⟨rfl, hq, y9, z9⟩
  generalize hv : x4 + v5 % 32 * 128 = x6 at y9 z9 ⊢
  have HV6 : Hid (x4 + v5 * 128 = x6) := by show _ = _; omega
  clear hv
  have hW9 : Hid (Below w.heap.size w w9) := Below.trans hW8.out ((hq.below _).mono hW8.out.size)
  have HS9 : Hid (SixC w9 w.heap.size ((j : Int) + 1) rd rs1 rs2 imm csr) := SixC.on HS8.out (hq.below _)
  clear hq c0 c1 c2 c3 c4 c5 HS8 hW8
  obtain ⟨c0, c1, c2, c3, c4, c5⟩ := HS9.out
  go_wp2
  go_ret2
  refine ⟨ret_pairb ?_, hW9.out⟩
  unfold encOf headOf
  rw [HL.out, HK.out, show immPut 5 imm = imm / 32 % 128 * 33554432 + imm % 32 * 128 from rfl, HV3.out, HV5.out]
  have q0 := HM.out
  have q1 := HV1.out
  have q2 := HV2.out
  have q3 := HV4.out
  have q4 := HV6.out
  have q5 := HX.out
  omega

end Go.Proofs.YthgolbmngjdbeaaGreatDoor

/- Layer 4: the document's own Encode, form by form. -/
namespace Go.Proofs.YthgolbmngjdbeaaGreatDoor
open Go.RowKit
set_option linter.unusedVariables false

set_option maxHeartbeats 1000000 in
theorem renc_6 (j : Nat) (hz : formZ (j + 1) = 6) (rd rs1 rs2 imm csr : Int) (w : World) (hj : j < 57) (i0 : 0 ≤ imm) (i1 : imm < 4294967296) (hr : rightOf (formZ (j + 1)) rd rs1 rs2 imm csr = true) :
    Calls Tryz.prog 32 #[.agg #[.int .i64 ((j : Int) + 1), .int .i64 rd, .int .i64 rs1, .int .i64 rs2, .int .u32 imm, .int .i64 csr]] w fun e w' => e = .returned (.tuple #[.int .u32 (encOf (j + 1) rd rs1 rs2 imm csr), .bool true]) ∧ Below w.heap.size w w' := by
  have hn : ((j : Int) + 1 == 0) = false := eneb (show j + 1 ≠ 0 by omega)
  have HR : Hid (∀ w, Calls Tryz.prog 57 #[.agg #[.int .i64 ((j : Int) + 1), .int .i64 rd, .int .i64 rs1, .int .i64 rs2, .int .u32 imm, .int .i64 csr]] w fun e w' => e = .returned (.bool true) ∧ Below w.heap.size w w') := fun w => by
    have := rright_yes (j + 1) rd rs1 rs2 imm csr w (by omega) i0 i1
    rw [hr] at this
    exact this
  obtain ⟨⟨m0, m1⟩, ⟨a0, a1⟩, ⟨b0, b1⟩, ⟨d0, d1⟩, ⟨e0, e1⟩, _⟩ := enc_puts (j + 1) (by omega) (by omega) rd rs1 rs2 imm csr _ rfl hr
  obtain ⟨p1, p2, p3, p4, _⟩ := right_parts _ _ _ _ _ _ hr
  have n1 := match_p1 (j + 1) (by omega) (by omega)
  have n2 := match_p2 (j + 1) (by omega) (by omega)
  have n3 := match_p3 (j + 1) (by omega) (by omega)
  clear hr
  generalize hm : matchL.getD (j + 1 - 1) 0 = m at *
  have HL : Hid (matchL.getD (j + 1 - 1) 0 = m) := hm
  clear hm
  have hff := hz
  rw [hz] at n1 n2 n3 p1 p2 p3 p4
  have HK : Hid (formZ (j + 1) = 6) := hff
  have HF : Hid (∀ w, Calls Tryz.prog 30 #[.int .i64 ((j : Int) + 1)] w fun e w' => e = .returned (.int .i64 6) ∧ w' = w) := fun w => by
    have := rform_any (j + 1) (by omega) w
    rw [hff] at this
    exact this
  clear hff hz
  have HM : Hid _ := And.intro n1 (And.intro n2 n3)
  have HP : Hid _ := And.intro p1 (And.intro p2 (And.intro p3 p4))
  clear n1 n2 n3 p1 p2 p3 p4
  have hS : SixC (w.alloc (.cells #[.int .i64 ((j : Int) + 1), .int .i64 rd, .int .i64 rs1, .int .i64 rs2, .int .u32 imm, .int .i64 csr] 30)) w.heap.size ((j : Int) + 1) rd rs1 rs2 imm csr := sixC_new w _ rfl _ _ _ _ _ _ _
  have hW : Below w.heap.size w (w.alloc (.cells #[.int .i64 ((j : Int) + 1), .int .i64 rd, .int .i64 rs1, .int .i64 rs2, .int .u32 imm, .int .i64 csr] 30)) := (Below.refl _ _).alloc (Nat.le_refl _) _
  have HS : Hid (SixC (w.alloc (.cells #[.int .i64 ((j : Int) + 1), .int .i64 rd, .int .i64 rs1, .int .i64 rs2, .int .u32 imm, .int .i64 csr] 30)) w.heap.size ((j : Int) + 1) rd rs1 rs2 imm csr) := hS
  clear hS
  have g0 : (0 : Int) ≤ (j : Int) := by omega
  have g1 : (j : Int) < 57 := by omega
  have g2 : IntKind.i64.wrap (j : Int) = j := by rw [IntKind.wrap_i64]; omega
  have g3 : IntKind.i64.wrap ((j : Int) + 1 - 1) = j := by rw [IntKind.wrap_i64]; omega
  go_enter Tryz.func32, Tryz.ntmps32
  go_wp2_with fail
  generalize (w.alloc (.cells #[.int .i64 ((j : Int) + 1), .int .i64 rd, .int .i64 rs1, .int .i64 rs2, .int .u32 imm, .int .i64 csr] 30)) = W at *
  refine (HR.out _).mono ?_
  rintro e w1 ⟨rfl, hb⟩
  have HS1 : Hid _ := HS.out.on hb
  have hW1 : Hid (Below w.heap.size w w1) := hW.trans (hb.mono hW.size)
  clear HS hb hW
  obtain ⟨c0, c1, c2, c3, c4, c5⟩ := HS1.out
  go_wp2_with fail
  refine (HF.out _).mono ?_
  rintro e w2 ⟨rfl, hw⟩
  have hw := hw.symm
  subst hw
  go_wp2_with fail
  go_region_with (first | (go_at_call 58; refine (patt_any j hj _).mono ?_; rintro e w3 ⟨rfl, hb3, hc⟩; rw [show matchL.getD j 0 = m from HL.out] at hc; have hc : w3.cell? ⟨w1.heap.size, j * 2 + 1, none⟩ = some (.int .u32 m) := hc; have hW3 : Hid (Below w.heap.size w w3) := Below.trans hW1.out.drew (hb3.mono hW1.out.size); have HS3 : Hid _ := SixC.on (SixC.on HS1.out ((Below.refl w1.heap.size w1).drew)) hb3; have k0 := HS3.out.1; clear hb3))
  all_goals (try clear e)
  all_goals (clear k0 hc; revert HS3; revert hW3; revert w3)
  refine ?key
  rotate_left
  exact ?key
  intro w3 _ hW3 HS3
  obtain ⟨n1, n2, n3⟩ := HM.out
  obtain ⟨p1, p2, p3, p4⟩ := HP.out
  clear HM HP HR HF HS1 hW1 c0 c1 c2 c3 c4 c5 g2 g3 hn
  have HX : Hid (True ∧ True ∧ True ∧ csr = 0) := ⟨trivial, trivial, trivial, partB_n p4⟩
  obtain ⟨m25, m3, m7, hm, ⟨_, _⟩, ⟨_, _⟩, _, _⟩ := m_split3 m m0 m1 (n3 (by simp))
  have HM : Hid (m = m25 * 33554432 + m3 * 4096 + m7) := hm
  clear hm
  clear n1 n2 n3 p1 p2 p3 p4
  obtain ⟨c0, c1, c2, c3, c4, c5⟩ := HS3.out
  have hz : m / 128 % 32 = 0 := by
    have q0 := HM.out
    exact free_of m 128 32 (m3 * 1 + m25 * 8192) (m7 * 1) (by omega) (by omega) (by omega) (by omega)
  have HZ : Hid (m / 128 % 32 = 0) := hz
  clear hz
  go_wp2_with fail
  refine (eput_any 11 7 32 128 rd m _ m0 m1 (by omega) (by omega) (by omega) (by omega) (by omega) rfl rfl HZ.out).mono ?_
  clear HZ
  rintro e w4 ⟨rfl, hq, y4, z4⟩
  generalize hv : m + rd % 32 * 128 = x1 at y4 z4 ⊢
  have HV1 : Hid (m + rd * 128 = x1) := by show _ = _; omega
  clear hv
  have hW4 : Hid (Below w.heap.size w w4) := Below.trans hW3.out ((hq.below _).mono hW3.out.size)
  have HS4 : Hid (SixC w4 w.heap.size ((j : Int) + 1) rd rs1 rs2 imm csr) := SixC.on HS3.out (hq.below _)
  clear hq c0 c1 c2 c3 c4 c5 HS3 hW3
  obtain ⟨c0, c1, c2, c3, c4, c5⟩ := HS4.out
  have hz : x1 / 32768 % 32 = 0 := by
    have q0 := HM.out
    have q1 := HV1.out
    exact free_of x1 32768 32 (m25 * 32) (m7 * 1 + m3 * 4096 + rd * 128) (by omega) (by omega) (by omega) (by omega)
  have HZ : Hid (x1 / 32768 % 32 = 0) := hz
  clear hz
  go_wp2_with fail
  refine (eput_any 19 15 32 32768 rs1 x1 _ y4 z4 (by omega) (by omega) (by omega) (by omega) (by omega) rfl rfl HZ.out).mono ?_
  clear HZ
  rintro e w5 ⟨rfl, hq, y5, z5⟩
  generalize hv : x1 + rs1 % 32 * 32768 = x2 at y5 z5 ⊢
  have HV2 : Hid (x1 + rs1 * 32768 = x2) := by show _ = _; omega
  clear hv
  have hW5 : Hid (Below w.heap.size w w5) := Below.trans hW4.out ((hq.below _).mono hW4.out.size)
  have HS5 : Hid (SixC w5 w.heap.size ((j : Int) + 1) rd rs1 rs2 imm csr) := SixC.on HS4.out (hq.below _)
  clear hq c0 c1 c2 c3 c4 c5 HS4 hW4
  obtain ⟨c0, c1, c2, c3, c4, c5⟩ := HS5.out
  have hz : x2 / 1048576 % 32 = 0 := by
    have q0 := HM.out
    have q1 := HV1.out
    have q2 := HV2.out
    exact free_of x2 1048576 32 (m25 * 1) (m7 * 1 + m3 * 4096 + rd * 128 + rs1 * 32768) (by omega) (by omega) (by omega) (by omega)
  have HZ : Hid (x2 / 1048576 % 32 = 0) := hz
  clear hz
  go_wp2_with fail
  refine (eput_any 24 20 32 1048576 rs2 x2 _ y5 z5 (by omega) (by omega) (by omega) (by omega) (by omega) rfl rfl HZ.out).mono ?_
  clear HZ
  rintro e w6 ⟨rfl, hq, y6, z6⟩
  generalize hv : x2 + rs2 % 32 * 1048576 = x3 at y6 z6 ⊢
  have HV3 : Hid (x2 + rs2 * 1048576 = x3) := by show _ = _; omega
  clear hv
  have hW6 : Hid (Below w.heap.size w w6) := Below.trans hW5.out ((hq.below _).mono hW5.out.size)
  have HS6 : Hid (SixC w6 w.heap.size ((j : Int) + 1) rd rs1 rs2 imm csr) := SixC.on HS5.out (hq.below _)
  clear hq c0 c1 c2 c3 c4 c5 HS5 hW5
  obtain ⟨c0, c1, c2, c3, c4, c5⟩ := HS6.out
  go_wp2
  go_ret2
  refine ⟨ret_pairb ?_, hW6.out⟩
  unfold encOf headOf
  rw [HL.out, HK.out, show immPut 6 imm = 0 from rfl]
  have q0 := HM.out
  have q1 := HV1.out
  have q2 := HV2.out
  have q3 := HV3.out
  have q4 := HX.out
  omega

end Go.Proofs.YthgolbmngjdbeaaGreatDoor

/- Layer 4: the document's own Encode, form by form. -/
namespace Go.Proofs.YthgolbmngjdbeaaGreatDoor
open Go.RowKit
set_option linter.unusedVariables false

set_option maxHeartbeats 1000000 in
theorem renc_7 (j : Nat) (hz : formZ (j + 1) = 7) (rd rs1 rs2 imm csr : Int) (w : World) (hj : j < 57) (i0 : 0 ≤ imm) (i1 : imm < 4294967296) (hr : rightOf (formZ (j + 1)) rd rs1 rs2 imm csr = true) :
    Calls Tryz.prog 32 #[.agg #[.int .i64 ((j : Int) + 1), .int .i64 rd, .int .i64 rs1, .int .i64 rs2, .int .u32 imm, .int .i64 csr]] w fun e w' => e = .returned (.tuple #[.int .u32 (encOf (j + 1) rd rs1 rs2 imm csr), .bool true]) ∧ Below w.heap.size w w' := by
  have hn : ((j : Int) + 1 == 0) = false := eneb (show j + 1 ≠ 0 by omega)
  have HR : Hid (∀ w, Calls Tryz.prog 57 #[.agg #[.int .i64 ((j : Int) + 1), .int .i64 rd, .int .i64 rs1, .int .i64 rs2, .int .u32 imm, .int .i64 csr]] w fun e w' => e = .returned (.bool true) ∧ Below w.heap.size w w') := fun w => by
    have := rright_yes (j + 1) rd rs1 rs2 imm csr w (by omega) i0 i1
    rw [hr] at this
    exact this
  obtain ⟨⟨m0, m1⟩, ⟨a0, a1⟩, ⟨b0, b1⟩, ⟨d0, d1⟩, ⟨e0, e1⟩, _⟩ := enc_puts (j + 1) (by omega) (by omega) rd rs1 rs2 imm csr _ rfl hr
  obtain ⟨p1, p2, p3, p4, _⟩ := right_parts _ _ _ _ _ _ hr
  have n1 := match_p1 (j + 1) (by omega) (by omega)
  have n2 := match_p2 (j + 1) (by omega) (by omega)
  have n3 := match_p3 (j + 1) (by omega) (by omega)
  clear hr
  generalize hm : matchL.getD (j + 1 - 1) 0 = m at *
  have HL : Hid (matchL.getD (j + 1 - 1) 0 = m) := hm
  clear hm
  have hff := hz
  rw [hz] at n1 n2 n3 p1 p2 p3 p4
  have HK : Hid (formZ (j + 1) = 7) := hff
  have HF : Hid (∀ w, Calls Tryz.prog 30 #[.int .i64 ((j : Int) + 1)] w fun e w' => e = .returned (.int .i64 7) ∧ w' = w) := fun w => by
    have := rform_any (j + 1) (by omega) w
    rw [hff] at this
    exact this
  clear hff hz
  have HM : Hid _ := And.intro n1 (And.intro n2 n3)
  have HP : Hid _ := And.intro p1 (And.intro p2 (And.intro p3 p4))
  clear n1 n2 n3 p1 p2 p3 p4
  have hS : SixC (w.alloc (.cells #[.int .i64 ((j : Int) + 1), .int .i64 rd, .int .i64 rs1, .int .i64 rs2, .int .u32 imm, .int .i64 csr] 30)) w.heap.size ((j : Int) + 1) rd rs1 rs2 imm csr := sixC_new w _ rfl _ _ _ _ _ _ _
  have hW : Below w.heap.size w (w.alloc (.cells #[.int .i64 ((j : Int) + 1), .int .i64 rd, .int .i64 rs1, .int .i64 rs2, .int .u32 imm, .int .i64 csr] 30)) := (Below.refl _ _).alloc (Nat.le_refl _) _
  have HS : Hid (SixC (w.alloc (.cells #[.int .i64 ((j : Int) + 1), .int .i64 rd, .int .i64 rs1, .int .i64 rs2, .int .u32 imm, .int .i64 csr] 30)) w.heap.size ((j : Int) + 1) rd rs1 rs2 imm csr) := hS
  clear hS
  have g0 : (0 : Int) ≤ (j : Int) := by omega
  have g1 : (j : Int) < 57 := by omega
  have g2 : IntKind.i64.wrap (j : Int) = j := by rw [IntKind.wrap_i64]; omega
  have g3 : IntKind.i64.wrap ((j : Int) + 1 - 1) = j := by rw [IntKind.wrap_i64]; omega
  go_enter Tryz.func32, Tryz.ntmps32
  go_wp2_with fail
  generalize (w.alloc (.cells #[.int .i64 ((j : Int) + 1), .int .i64 rd, .int .i64 rs1, .int .i64 rs2, .int .u32 imm, .int .i64 csr] 30)) = W at *
  refine (HR.out _).mono ?_
  rintro e w1 ⟨rfl, hb⟩
  have HS1 : Hid _ := HS.out.on hb
  have hW1 : Hid (Below w.heap.size w w1) := hW.trans (hb.mono hW.size)
  clear HS hb hW
  obtain ⟨c0, c1, c2, c3, c4, c5⟩ := HS1.out
  go_wp2_with fail
  refine (HF.out _).mono ?_
  rintro e w2 ⟨rfl, hw⟩
  have hw := hw.symm
  subst hw
  go_wp2_with fail
  go_region_with (first | (go_at_call 58; refine (patt_any j hj _).mono ?_; rintro e w3 ⟨rfl, hb3, hc⟩; rw [show matchL.getD j 0 = m from HL.out] at hc; have hc : w3.cell? ⟨w1.heap.size, j * 2 + 1, none⟩ = some (.int .u32 m) := hc; have hW3 : Hid (Below w.heap.size w w3) := Below.trans hW1.out.drew (hb3.mono hW1.out.size); have HS3 : Hid _ := SixC.on (SixC.on HS1.out ((Below.refl w1.heap.size w1).drew)) hb3; have k0 := HS3.out.1; clear hb3))
  all_goals (try clear e)
  all_goals (clear k0 hc; revert HS3; revert hW3; revert w3)
  refine ?key
  rotate_left
  exact ?key
  intro w3 _ hW3 HS3
  obtain ⟨n1, n2, n3⟩ := HM.out
  obtain ⟨p1, p2, p3, p4⟩ := HP.out
  clear HM HP HR HF HS1 hW1 c0 c1 c2 c3 c4 c5 g2 g3 hn
  have HX : Hid (True ∧ True ∧ rs2 = 0 ∧ csr = 0) := ⟨trivial, trivial, partB_n p3, partB_n p4⟩
  obtain ⟨m25, m3, m7, hm, ⟨_, _⟩, ⟨_, _⟩, _, _⟩ := m_split3 m m0 m1 (n3 (by simp))
  have HM : Hid (m = m25 * 33554432 + m3 * 4096 + m7) := hm
  clear hm
  clear n1 n2 n3 p1 p2 p3 p4
  obtain ⟨c0, c1, c2, c3, c4, c5⟩ := HS3.out
  have hz : m / 128 % 32 = 0 := by
    have q0 := HM.out
    exact free_of m 128 32 (m3 * 1 + m25 * 8192) (m7 * 1) (by omega) (by omega) (by omega) (by omega)
  have HZ : Hid (m / 128 % 32 = 0) := hz
  clear hz
  go_wp2_with fail
  refine (eput_any 11 7 32 128 rd m _ m0 m1 (by omega) (by omega) (by omega) (by omega) (by omega) rfl rfl HZ.out).mono ?_
  clear HZ
  rintro e w4 ⟨rfl, hq, y4, z4⟩
  generalize hv : m + rd % 32 * 128 = x1 at y4 z4 ⊢
  have HV1 : Hid (m + rd * 128 = x1) := by show _ = _; omega
  clear hv
  have hW4 : Hid (Below w.heap.size w w4) := Below.trans hW3.out ((hq.below _).mono hW3.out.size)
  have HS4 : Hid (SixC w4 w.heap.size ((j : Int) + 1) rd rs1 rs2 imm csr) := SixC.on HS3.out (hq.below _)
  clear hq c0 c1 c2 c3 c4 c5 HS3 hW3
  obtain ⟨c0, c1, c2, c3, c4, c5⟩ := HS4.out
  have hz : x1 / 32768 % 32 = 0 := by
    have q0 := HM.out
    have q1 := HV1.out
    exact free_of x1 32768 32 (m25 * 32) (m7 * 1 + m3 * 4096 + rd * 128) (by omega) (by omega) (by omega) (by omega)
  have HZ : Hid (x1 / 32768 % 32 = 0) := hz
  clear hz
  go_wp2_with fail
  refine (eput_any 19 15 32 32768 rs1 x1 _ y4 z4 (by omega) (by omega) (by omega) (by omega) (by omega) rfl rfl HZ.out).mono ?_
  clear HZ
  rintro e w5 ⟨rfl, hq, y5, z5⟩
  generalize hv : x1 + rs1 % 32 * 32768 = x2 at y5 z5 ⊢
  have HV2 : Hid (x1 + rs1 * 32768 = x2) := by show _ = _; omega
  clear hv
  have hW5 : Hid (Below w.heap.size w w5) := Below.trans hW4.out ((hq.below _).mono hW4.out.size)
  have HS5 : Hid (SixC w5 w.heap.size ((j : Int) + 1) rd rs1 rs2 imm csr) := SixC.on HS4.out (hq.below _)
  clear hq c0 c1 c2 c3 c4 c5 HS4 hW4
  obtain ⟨c0, c1, c2, c3, c4, c5⟩ := HS5.out
  have hz : x2 / 1048576 % 32 = 0 := by
    have q0 := HM.out
    have q1 := HV1.out
    have q2 := HV2.out
    exact free_of x2 1048576 32 (m25 * 1) (m7 * 1 + m3 * 4096 + rd * 128 + rs1 * 32768) (by omega) (by omega) (by omega) (by omega)
  have HZ : Hid (x2 / 1048576 % 32 = 0) := hz
  clear hz
  go_wp2_with fail
  refine (eput_any 24 20 32 1048576 imm x2 _ y5 z5 (by omega) (by omega) (by omega) (by omega) (by omega) rfl rfl HZ.out).mono ?_
  clear HZ
  rintro e w6 ⟨rfl, hq, y6, z6⟩
  generalize hv : x2 + imm % 32 * 1048576 = x3 at y6 z6 ⊢
  have HV3 : Hid (x2 + imm % 32 * 1048576 = x3) := by show _ = _; omega
  clear hv
  have hW6 : Hid (Below w.heap.size w w6) := Below.trans hW5.out ((hq.below _).mono hW5.out.size)
  have HS6 : Hid (SixC w6 w.heap.size ((j : Int) + 1) rd rs1 rs2 imm csr) := SixC.on HS5.out (hq.below _)
  clear hq c0 c1 c2 c3 c4 c5 HS5 hW5
  obtain ⟨c0, c1, c2, c3, c4, c5⟩ := HS6.out
  go_wp2
  go_ret2
  refine ⟨ret_pairb ?_, hW6.out⟩
  unfold encOf headOf
  rw [HL.out, HK.out, show immPut 7 imm = imm % 32 * 1048576 from rfl]
  have q0 := HM.out
  have q1 := HV1.out
  have q2 := HV2.out
  have q3 := HV3.out
  have q4 := HX.out
  omega

end Go.Proofs.YthgolbmngjdbeaaGreatDoor

/- Layer 4: the document's own Encode, form by form. -/
namespace Go.Proofs.YthgolbmngjdbeaaGreatDoor
open Go.RowKit
set_option linter.unusedVariables false

set_option maxHeartbeats 1000000 in
theorem renc_8 (j : Nat) (hz : formZ (j + 1) = 8) (rd rs1 rs2 imm csr : Int) (w : World) (hj : j < 57) (i0 : 0 ≤ imm) (i1 : imm < 4294967296) (hr : rightOf (formZ (j + 1)) rd rs1 rs2 imm csr = true) :
    Calls Tryz.prog 32 #[.agg #[.int .i64 ((j : Int) + 1), .int .i64 rd, .int .i64 rs1, .int .i64 rs2, .int .u32 imm, .int .i64 csr]] w fun e w' => e = .returned (.tuple #[.int .u32 (encOf (j + 1) rd rs1 rs2 imm csr), .bool true]) ∧ Below w.heap.size w w' := by
  have hn : ((j : Int) + 1 == 0) = false := eneb (show j + 1 ≠ 0 by omega)
  have HR : Hid (∀ w, Calls Tryz.prog 57 #[.agg #[.int .i64 ((j : Int) + 1), .int .i64 rd, .int .i64 rs1, .int .i64 rs2, .int .u32 imm, .int .i64 csr]] w fun e w' => e = .returned (.bool true) ∧ Below w.heap.size w w') := fun w => by
    have := rright_yes (j + 1) rd rs1 rs2 imm csr w (by omega) i0 i1
    rw [hr] at this
    exact this
  obtain ⟨⟨m0, m1⟩, ⟨a0, a1⟩, ⟨b0, b1⟩, ⟨d0, d1⟩, ⟨e0, e1⟩, _⟩ := enc_puts (j + 1) (by omega) (by omega) rd rs1 rs2 imm csr _ rfl hr
  obtain ⟨p1, p2, p3, p4, _⟩ := right_parts _ _ _ _ _ _ hr
  have n1 := match_p1 (j + 1) (by omega) (by omega)
  have n2 := match_p2 (j + 1) (by omega) (by omega)
  have n3 := match_p3 (j + 1) (by omega) (by omega)
  clear hr
  generalize hm : matchL.getD (j + 1 - 1) 0 = m at *
  have HL : Hid (matchL.getD (j + 1 - 1) 0 = m) := hm
  clear hm
  have hff := hz
  rw [hz] at n1 n2 n3 p1 p2 p3 p4
  have HK : Hid (formZ (j + 1) = 8) := hff
  have HF : Hid (∀ w, Calls Tryz.prog 30 #[.int .i64 ((j : Int) + 1)] w fun e w' => e = .returned (.int .i64 8) ∧ w' = w) := fun w => by
    have := rform_any (j + 1) (by omega) w
    rw [hff] at this
    exact this
  clear hff hz
  have HM : Hid _ := And.intro n1 (And.intro n2 n3)
  have HP : Hid _ := And.intro p1 (And.intro p2 (And.intro p3 p4))
  clear n1 n2 n3 p1 p2 p3 p4
  have hS : SixC (w.alloc (.cells #[.int .i64 ((j : Int) + 1), .int .i64 rd, .int .i64 rs1, .int .i64 rs2, .int .u32 imm, .int .i64 csr] 30)) w.heap.size ((j : Int) + 1) rd rs1 rs2 imm csr := sixC_new w _ rfl _ _ _ _ _ _ _
  have hW : Below w.heap.size w (w.alloc (.cells #[.int .i64 ((j : Int) + 1), .int .i64 rd, .int .i64 rs1, .int .i64 rs2, .int .u32 imm, .int .i64 csr] 30)) := (Below.refl _ _).alloc (Nat.le_refl _) _
  have HS : Hid (SixC (w.alloc (.cells #[.int .i64 ((j : Int) + 1), .int .i64 rd, .int .i64 rs1, .int .i64 rs2, .int .u32 imm, .int .i64 csr] 30)) w.heap.size ((j : Int) + 1) rd rs1 rs2 imm csr) := hS
  clear hS
  have g0 : (0 : Int) ≤ (j : Int) := by omega
  have g1 : (j : Int) < 57 := by omega
  have g2 : IntKind.i64.wrap (j : Int) = j := by rw [IntKind.wrap_i64]; omega
  have g3 : IntKind.i64.wrap ((j : Int) + 1 - 1) = j := by rw [IntKind.wrap_i64]; omega
  go_enter Tryz.func32, Tryz.ntmps32
  go_wp2_with fail
  generalize (w.alloc (.cells #[.int .i64 ((j : Int) + 1), .int .i64 rd, .int .i64 rs1, .int .i64 rs2, .int .u32 imm, .int .i64 csr] 30)) = W at *
  refine (HR.out _).mono ?_
  rintro e w1 ⟨rfl, hb⟩
  have HS1 : Hid _ := HS.out.on hb
  have hW1 : Hid (Below w.heap.size w w1) := hW.trans (hb.mono hW.size)
  clear HS hb hW
  obtain ⟨c0, c1, c2, c3, c4, c5⟩ := HS1.out
  go_wp2_with fail
  refine (HF.out _).mono ?_
  rintro e w2 ⟨rfl, hw⟩
  have hw := hw.symm
  subst hw
  go_wp2_with fail
  go_region_with (first | (go_at_call 58; refine (patt_any j hj _).mono ?_; rintro e w3 ⟨rfl, hb3, hc⟩; rw [show matchL.getD j 0 = m from HL.out] at hc; have hc : w3.cell? ⟨w1.heap.size, j * 2 + 1, none⟩ = some (.int .u32 m) := hc; have hW3 : Hid (Below w.heap.size w w3) := Below.trans hW1.out.drew (hb3.mono hW1.out.size); have HS3 : Hid _ := SixC.on (SixC.on HS1.out ((Below.refl w1.heap.size w1).drew)) hb3; have k0 := HS3.out.1; clear hb3))
  all_goals (try clear e)
  all_goals (clear k0 hc; revert HS3; revert hW3; revert w3)
  refine ?key
  rotate_left
  exact ?key
  intro w3 _ hW3 HS3
  obtain ⟨n1, n2, n3⟩ := HM.out
  obtain ⟨p1, p2, p3, p4⟩ := HP.out
  clear HM HP HR HF HS1 hW1 c0 c1 c2 c3 c4 c5 g2 g3 hn
  have HX : Hid (True ∧ True ∧ rs2 = 0 ∧ True) := ⟨trivial, trivial, partB_n p3, trivial⟩
  obtain ⟨m3, m7, hm, ⟨_, _⟩, _, _⟩ := m_split2 m m0 (n2 (by simp))
  have HM : Hid (m = m3 * 4096 + m7) := hm
  clear hm
  clear n1 n2 n3 p1 p2 p3 p4
  obtain ⟨c0, c1, c2, c3, c4, c5⟩ := HS3.out
  have hz : m / 128 % 32 = 0 := by
    have q0 := HM.out
    exact free_of m 128 32 (m3 * 1) (m7 * 1) (by omega) (by omega) (by omega) (by omega)
  have HZ : Hid (m / 128 % 32 = 0) := hz
  clear hz
  go_wp2_with fail
  refine (eput_any 11 7 32 128 rd m _ m0 m1 (by omega) (by omega) (by omega) (by omega) (by omega) rfl rfl HZ.out).mono ?_
  clear HZ
  rintro e w4 ⟨rfl, hq, y4, z4⟩
  generalize hv : m + rd % 32 * 128 = x1 at y4 z4 ⊢
  have HV1 : Hid (m + rd * 128 = x1) := by show _ = _; omega
  clear hv
  have hW4 : Hid (Below w.heap.size w w4) := Below.trans hW3.out ((hq.below _).mono hW3.out.size)
  have HS4 : Hid (SixC w4 w.heap.size ((j : Int) + 1) rd rs1 rs2 imm csr) := SixC.on HS3.out (hq.below _)
  clear hq c0 c1 c2 c3 c4 c5 HS3 hW3
  obtain ⟨c0, c1, c2, c3, c4, c5⟩ := HS4.out
  have hz : x1 / 32768 % 32 = 0 := by
    have q0 := HM.out
    have q1 := HV1.out
    exact free_of x1 32768 32 (0) (m7 * 1 + m3 * 4096 + rd * 128) (by omega) (by omega) (by omega) (by omega)
  have HZ : Hid (x1 / 32768 % 32 = 0) := hz
  clear hz
  go_wp2_with fail
  refine (eput_any 19 15 32 32768 rs1 x1 _ y4 z4 (by omega) (by omega) (by omega) (by omega) (by omega) rfl rfl HZ.out).mono ?_
  clear HZ
  rintro e w5 ⟨rfl, hq, y5, z5⟩
  generalize hv : x1 + rs1 % 32 * 32768 = x2 at y5 z5 ⊢
  have HV2 : Hid (x1 + rs1 * 32768 = x2) := by show _ = _; omega
  clear hv
  have hW5 : Hid (Below w.heap.size w w5) := Below.trans hW4.out ((hq.below _).mono hW4.out.size)
  have HS5 : Hid (SixC w5 w.heap.size ((j : Int) + 1) rd rs1 rs2 imm csr) := SixC.on HS4.out (hq.below _)
  clear hq c0 c1 c2 c3 c4 c5 HS4 hW4
  obtain ⟨c0, c1, c2, c3, c4, c5⟩ := HS5.out
  have hz : x2 / 1048576 % 4096 = 0 := by
    have q0 := HM.out
    have q1 := HV1.out
    have q2 := HV2.out
    exact free_of x2 1048576 4096 (0) (m7 * 1 + m3 * 4096 + rd * 128 + rs1 * 32768) (by omega) (by omega) (by omega) (by omega)
  have HZ : Hid (x2 / 1048576 % 4096 = 0) := hz
  clear hz
  go_wp2_with fail
  refine (eput_any 31 20 4096 1048576 csr x2 _ y5 z5 (by omega) (by omega) (by omega) (by omega) (by omega) rfl rfl HZ.out).mono ?_
  clear HZ
  rintro e w6 ⟨rfl, hq, y6, z6⟩
  generalize hv : x2 + csr % 4096 * 1048576 = x3 at y6 z6 ⊢
  have HV3 : Hid (x2 + csr * 1048576 = x3) := by show _ = _; omega
  clear hv
  have hW6 : Hid (Below w.heap.size w w6) := Below.trans hW5.out ((hq.below _).mono hW5.out.size)
  have HS6 : Hid (SixC w6 w.heap.size ((j : Int) + 1) rd rs1 rs2 imm csr) := SixC.on HS5.out (hq.below _)
  clear hq c0 c1 c2 c3 c4 c5 HS5 hW5
  obtain ⟨c0, c1, c2, c3, c4, c5⟩ := HS6.out
  go_wp2
  go_ret2
  refine ⟨ret_pairb ?_, hW6.out⟩
  unfold encOf headOf
  rw [HL.out, HK.out, show immPut 8 imm = 0 from rfl]
  have q0 := HM.out
  have q1 := HV1.out
  have q2 := HV2.out
  have q3 := HV3.out
  have q4 := HX.out
  omega

end Go.Proofs.YthgolbmngjdbeaaGreatDoor

/- Layer 4: the document's own Encode, form by form. -/
namespace Go.Proofs.YthgolbmngjdbeaaGreatDoor
open Go.RowKit
set_option linter.unusedVariables false

set_option maxHeartbeats 1000000 in
theorem renc_9 (j : Nat) (hz : formZ (j + 1) = 9) (rd rs1 rs2 imm csr : Int) (w : World) (hj : j < 57) (i0 : 0 ≤ imm) (i1 : imm < 4294967296) (hr : rightOf (formZ (j + 1)) rd rs1 rs2 imm csr = true) :
    Calls Tryz.prog 32 #[.agg #[.int .i64 ((j : Int) + 1), .int .i64 rd, .int .i64 rs1, .int .i64 rs2, .int .u32 imm, .int .i64 csr]] w fun e w' => e = .returned (.tuple #[.int .u32 (encOf (j + 1) rd rs1 rs2 imm csr), .bool true]) ∧ Below w.heap.size w w' := by
  have hn : ((j : Int) + 1 == 0) = false := eneb (show j + 1 ≠ 0 by omega)
  have HR : Hid (∀ w, Calls Tryz.prog 57 #[.agg #[.int .i64 ((j : Int) + 1), .int .i64 rd, .int .i64 rs1, .int .i64 rs2, .int .u32 imm, .int .i64 csr]] w fun e w' => e = .returned (.bool true) ∧ Below w.heap.size w w') := fun w => by
    have := rright_yes (j + 1) rd rs1 rs2 imm csr w (by omega) i0 i1
    rw [hr] at this
    exact this
  obtain ⟨⟨m0, m1⟩, ⟨a0, a1⟩, ⟨b0, b1⟩, ⟨d0, d1⟩, ⟨e0, e1⟩, _⟩ := enc_puts (j + 1) (by omega) (by omega) rd rs1 rs2 imm csr _ rfl hr
  obtain ⟨p1, p2, p3, p4, _⟩ := right_parts _ _ _ _ _ _ hr
  have n1 := match_p1 (j + 1) (by omega) (by omega)
  have n2 := match_p2 (j + 1) (by omega) (by omega)
  have n3 := match_p3 (j + 1) (by omega) (by omega)
  clear hr
  generalize hm : matchL.getD (j + 1 - 1) 0 = m at *
  have HL : Hid (matchL.getD (j + 1 - 1) 0 = m) := hm
  clear hm
  have hff := hz
  rw [hz] at n1 n2 n3 p1 p2 p3 p4
  have HK : Hid (formZ (j + 1) = 9) := hff
  have HF : Hid (∀ w, Calls Tryz.prog 30 #[.int .i64 ((j : Int) + 1)] w fun e w' => e = .returned (.int .i64 9) ∧ w' = w) := fun w => by
    have := rform_any (j + 1) (by omega) w
    rw [hff] at this
    exact this
  clear hff hz
  have HM : Hid _ := And.intro n1 (And.intro n2 n3)
  have HP : Hid _ := And.intro p1 (And.intro p2 (And.intro p3 p4))
  clear n1 n2 n3 p1 p2 p3 p4
  have hS : SixC (w.alloc (.cells #[.int .i64 ((j : Int) + 1), .int .i64 rd, .int .i64 rs1, .int .i64 rs2, .int .u32 imm, .int .i64 csr] 30)) w.heap.size ((j : Int) + 1) rd rs1 rs2 imm csr := sixC_new w _ rfl _ _ _ _ _ _ _
  have hW : Below w.heap.size w (w.alloc (.cells #[.int .i64 ((j : Int) + 1), .int .i64 rd, .int .i64 rs1, .int .i64 rs2, .int .u32 imm, .int .i64 csr] 30)) := (Below.refl _ _).alloc (Nat.le_refl _) _
  have HS : Hid (SixC (w.alloc (.cells #[.int .i64 ((j : Int) + 1), .int .i64 rd, .int .i64 rs1, .int .i64 rs2, .int .u32 imm, .int .i64 csr] 30)) w.heap.size ((j : Int) + 1) rd rs1 rs2 imm csr) := hS
  clear hS
  have g0 : (0 : Int) ≤ (j : Int) := by omega
  have g1 : (j : Int) < 57 := by omega
  have g2 : IntKind.i64.wrap (j : Int) = j := by rw [IntKind.wrap_i64]; omega
  have g3 : IntKind.i64.wrap ((j : Int) + 1 - 1) = j := by rw [IntKind.wrap_i64]; omega
  go_enter Tryz.func32, Tryz.ntmps32
  go_wp2_with fail
  generalize (w.alloc (.cells #[.int .i64 ((j : Int) + 1), .int .i64 rd, .int .i64 rs1, .int .i64 rs2, .int .u32 imm, .int .i64 csr] 30)) = W at *
  refine (HR.out _).mono ?_
  rintro e w1 ⟨rfl, hb⟩
  have HS1 : Hid _ := HS.out.on hb
  have hW1 : Hid (Below w.heap.size w w1) := hW.trans (hb.mono hW.size)
  clear HS hb hW
  obtain ⟨c0, c1, c2, c3, c4, c5⟩ := HS1.out
  go_wp2_with fail
  refine (HF.out _).mono ?_
  rintro e w2 ⟨rfl, hw⟩
  have hw := hw.symm
  subst hw
  go_wp2_with fail
  go_region_with (first | (go_at_call 58; refine (patt_any j hj _).mono ?_; rintro e w3 ⟨rfl, hb3, hc⟩; rw [show matchL.getD j 0 = m from HL.out] at hc; have hc : w3.cell? ⟨w1.heap.size, j * 2 + 1, none⟩ = some (.int .u32 m) := hc; have hW3 : Hid (Below w.heap.size w w3) := Below.trans hW1.out.drew (hb3.mono hW1.out.size); have HS3 : Hid _ := SixC.on (SixC.on HS1.out ((Below.refl w1.heap.size w1).drew)) hb3; have k0 := HS3.out.1; clear hb3))
  all_goals (try clear e)
  all_goals (clear k0 hc; revert HS3; revert hW3; revert w3)
  refine ?key
  rotate_left
  exact ?key
  intro w3 _ hW3 HS3
  obtain ⟨n1, n2, n3⟩ := HM.out
  obtain ⟨p1, p2, p3, p4⟩ := HP.out
  clear HM HP HR HF HS1 hW1 c0 c1 c2 c3 c4 c5 g2 g3 hn
  have HX : Hid (True ∧ rs1 = 0 ∧ rs2 = 0 ∧ True) := ⟨trivial, partB_n p2, partB_n p3, trivial⟩
  obtain ⟨m3, m7, hm, ⟨_, _⟩, _, _⟩ := m_split2 m m0 (n2 (by simp))
  have HM : Hid (m = m3 * 4096 + m7) := hm
  clear hm
  clear n1 n2 n3 p1 p2 p3 p4
  obtain ⟨c0, c1, c2, c3, c4, c5⟩ := HS3.out
  have hz : m / 128 % 32 = 0 := by
    have q0 := HM.out
    exact free_of m 128 32 (m3 * 1) (m7 * 1) (by omega) (by omega) (by omega) (by omega)
  have HZ : Hid (m / 128 % 32 = 0) := hz
  clear hz
  go_wp2_with fail
  refine (eput_any 11 7 32 128 rd m _ m0 m1 (by omega) (by omega) (by omega) (by omega) (by omega) rfl rfl HZ.out).mono ?_
  clear HZ
  rintro e w4 ⟨rfl, hq, y4, z4⟩
  generalize hv : m + rd % 32 * 128 = x1 at y4 z4 ⊢
  have HV1 : Hid (m + rd * 128 = x1) := by show _ = _; omega
  clear hv
  have hW4 : Hid (Below w.heap.size w w4) := Below.trans hW3.out ((hq.below _).mono hW3.out.size)
  have HS4 : Hid (SixC w4 w.heap.size ((j : Int) + 1) rd rs1 rs2 imm csr) := SixC.on HS3.out (hq.below _)
  clear hq c0 c1 c2 c3 c4 c5 HS3 hW3
  obtain ⟨c0, c1, c2, c3, c4, c5⟩ := HS4.out
  have hz : x1 / 1048576 % 4096 = 0 := by
    have q0 := HM.out
    have q1 := HV1.out
    exact free_of x1 1048576 4096 (0) (m7 * 1 + m3 * 4096 + rd * 128) (by omega) (by omega) (by omega) (by omega)
  have HZ : Hid (x1 / 1048576 % 4096 = 0) := hz
  clear hz
  go_wp2_with fail
  refine (eput_any 31 20 4096 1048576 csr x1 _ y4 z4 (by omega) (by omega) (by omega) (by omega) (by omega) rfl rfl HZ.out).mono ?_
  clear HZ
  rintro e w5 ⟨rfl, hq, y5, z5⟩
  generalize hv : x1 + csr % 4096 * 1048576 = x2 at y5 z5 ⊢
  have HV2 : Hid (x1 + csr * 1048576 = x2) := by show _ = _; omega
  clear hv
  have hW5 : Hid (Below w.heap.size w w5) := Below.trans hW4.out ((hq.below _).mono hW4.out.size)
  have HS5 : Hid (SixC w5 w.heap.size ((j : Int) + 1) rd rs1 rs2 imm csr) := SixC.on HS4.out (hq.below _)
  clear hq c0 c1 c2 c3 c4 c5 HS4 hW4
  obtain ⟨c0, c1, c2, c3, c4, c5⟩ := HS5.out
  have hz : x2 / 32768 % 32 = 0 := by
    have q0 := HM.out
    have q1 := HV1.out
    have q2 := HV2.out
    exact free_of x2 32768 32 (csr * 1) (m7 * 1 + m3 * 4096 + rd * 128) (by omega) (by omega) (by omega) (by omega)
  have HZ : Hid (x2 / 32768 % 32 = 0) := hz
  clear hz
  go_wp2_with fail
  refine (eput_any 19 15 32 32768 imm x2 _ y5 z5 (by omega) (by omega) (by omega) (by omega) (by omega) rfl rfl HZ.out).mono ?_
  clear HZ
  rintro e w6 ⟨rfl, hq, y6, z6⟩
  generalize hv : x2 + imm % 32 * 32768 = x3 at y6 z6 ⊢
  have HV3 : Hid (x2 + imm % 32 * 32768 = x3) := by show _ = _; omega
  clear hv
  have hW6 : Hid (Below w.heap.size w w6) := Below.trans hW5.out ((hq.below _).mono hW5.out.size)
  have HS6 : Hid (SixC w6 w.heap.size ((j : Int) + 1) rd rs1 rs2 imm csr) := SixC.on HS5.out (hq.below _)
  clear hq c0 c1 c2 c3 c4 c5 HS5 hW5
  obtain ⟨c0, c1, c2, c3, c4, c5⟩ := HS6.out
  go_wp2
  go_ret2
  refine ⟨ret_pairb ?_, hW6.out⟩
  unfold encOf headOf
  rw [HL.out, HK.out, show immPut 9 imm = imm % 32 * 32768 from rfl]
  have q0 := HM.out
  have q1 := HV1.out
  have q2 := HV2.out
  have q3 := HV3.out
  have q4 := HX.out
  omega

end Go.Proofs.YthgolbmngjdbeaaGreatDoor

/- Layer 4: an instruction's word is read as it (P4.3), as arithmetic. -/
namespace Go.Proofs.YthgolbmngjdbeaaGreatDoor
open Go.RowKit
set_option linter.unusedVariables false

theorem dig (y p m d H L : Int) (hp : 0 < p) (h : y = p * (m * H + d) + L) (h0 : 0 ≤ L) (h1 : L < p) (d0 : 0 ≤ d) (d1 : d < m) : y / p % m = d := by
  rw [h, Int.add_comm, Int.add_mul_ediv_left _ _ (by omega), Int.ediv_eq_zero_of_lt h0 h1, Int.zero_add, Int.add_comm, Int.add_mul_emod_self_left, Int.emod_eq_of_lt d0 d1]
theorem dig0 (y m d H : Int) (h : y = m * H + d) (d0 : 0 ≤ d) (d1 : d < m) : y % m = d := by
  rw [h, Int.add_comm, Int.add_mul_emod_self_left, Int.emod_eq_of_lt d0 d1]
theorem msp2 (m : Int) (h0 : 0 ≤ m) (h : m < 32768 ∧ m / 128 % 32 = 0) : ∃ m3 m7 : Int, m = m3 * 4096 + m7 ∧ (0 ≤ m3 ∧ m3 < 8) ∧ 0 ≤ m7 ∧ m7 < 128 := ⟨m / 4096, m % 128, by omega, by omega, by omega, by omega⟩
theorem msp3 (m : Int) (h0 : 0 ≤ m) (h1 : m < 4294967296) (h : m / 128 % 32 = 0 ∧ m / 32768 % 1024 = 0) : ∃ m25 m3 m7 : Int, m = m25 * 33554432 + m3 * 4096 + m7 ∧ (0 ≤ m25 ∧ m25 < 128) ∧ (0 ≤ m3 ∧ m3 < 8) ∧ 0 ≤ m7 ∧ m7 < 128 := ⟨m / 33554432, m / 4096 % 8, m % 128, by omega, by omega, by omega, by omega, by omega⟩

theorem digs_1 (y m7 rd u : Int) (h : y = m7 * 1 + rd * 128 + u * 4096) (hm7 : 0 ≤ m7 ∧ m7 < 128) (hrd : 0 ≤ rd ∧ rd < 32) (hu : 0 ≤ u ∧ u < 1048576) : 0 ≤ y ∧ y < 4294967296 ∧ y % 128 = m7 ∧ y / 128 % 32 = rd ∧ y / 4096 % 1048576 = u :=
  ⟨by omega, by omega, dig0 y 128 m7 (rd * 1 + u * 32) (by omega) (by omega) (by omega), dig y 128 32 rd (u * 1) (m7 * 1) (by decide) (by omega) (by omega) (by omega) (by omega) (by omega), dig y 4096 1048576 u (0) (m7 * 1 + rd * 128) (by decide) (by omega) (by omega) (by omega) (by omega) (by omega)⟩

theorem digs_2 (y m7 rd c b d a : Int) (h : y = m7 * 1 + rd * 128 + c * 4096 + b * 1048576 + d * 2097152 + a * 2147483648) (hm7 : 0 ≤ m7 ∧ m7 < 128) (hrd : 0 ≤ rd ∧ rd < 32) (hc : 0 ≤ c ∧ c < 256) (hb : 0 ≤ b ∧ b < 2) (hd : 0 ≤ d ∧ d < 1024) (ha : 0 ≤ a ∧ a < 2) : 0 ≤ y ∧ y < 4294967296 ∧ y % 128 = m7 ∧ y / 128 % 32 = rd ∧ y / 4096 % 256 = c ∧ y / 1048576 % 2 = b ∧ y / 2097152 % 1024 = d ∧ y / 2147483648 % 2 = a :=
  ⟨by omega, by omega, dig0 y 128 m7 (rd * 1 + c * 32 + b * 8192 + d * 16384 + a * 16777216) (by omega) (by omega) (by omega), dig y 128 32 rd (c * 1 + b * 256 + d * 512 + a * 524288) (m7 * 1) (by decide) (by omega) (by omega) (by omega) (by omega) (by omega), dig y 4096 256 c (b * 1 + d * 2 + a * 2048) (m7 * 1 + rd * 128) (by decide) (by omega) (by omega) (by omega) (by omega) (by omega), dig y 1048576 2 b (d * 1 + a * 1024) (m7 * 1 + rd * 128 + c * 4096) (by decide) (by omega) (by omega) (by omega) (by omega) (by omega), dig y 2097152 1024 d (a * 1) (m7 * 1 + rd * 128 + c * 4096 + b * 1048576) (by decide) (by omega) (by omega) (by omega) (by omega) (by omega), dig y 2147483648 2 a (0) (m7 * 1 + rd * 128 + c * 4096 + b * 1048576 + d * 2097152) (by decide) (by omega) (by omega) (by omega) (by omega) (by omega)⟩

theorem digs_3 (y m7 rd m3 rs1 i : Int) (h : y = m7 * 1 + rd * 128 + m3 * 4096 + rs1 * 32768 + i * 1048576) (hm7 : 0 ≤ m7 ∧ m7 < 128) (hrd : 0 ≤ rd ∧ rd < 32) (hm3 : 0 ≤ m3 ∧ m3 < 8) (hrs1 : 0 ≤ rs1 ∧ rs1 < 32) (hi : 0 ≤ i ∧ i < 4096) : 0 ≤ y ∧ y < 4294967296 ∧ y % 128 = m7 ∧ y / 128 % 32 = rd ∧ y / 4096 % 8 = m3 ∧ y / 32768 % 32 = rs1 ∧ y / 1048576 % 4096 = i :=
  ⟨by omega, by omega, dig0 y 128 m7 (rd * 1 + m3 * 32 + rs1 * 256 + i * 8192) (by omega) (by omega) (by omega), dig y 128 32 rd (m3 * 1 + rs1 * 8 + i * 256) (m7 * 1) (by decide) (by omega) (by omega) (by omega) (by omega) (by omega), dig y 4096 8 m3 (rs1 * 1 + i * 32) (m7 * 1 + rd * 128) (by decide) (by omega) (by omega) (by omega) (by omega) (by omega), dig y 32768 32 rs1 (i * 1) (m7 * 1 + rd * 128 + m3 * 4096) (by decide) (by omega) (by omega) (by omega) (by omega) (by omega), dig y 1048576 4096 i (0) (m7 * 1 + rd * 128 + m3 * 4096 + rs1 * 32768) (by decide) (by omega) (by omega) (by omega) (by omega) (by omega)⟩

theorem digs_4 (y m7 b d m3 rs1 rs2 c a : Int) (h : y = m7 * 1 + b * 128 + d * 256 + m3 * 4096 + rs1 * 32768 + rs2 * 1048576 + c * 33554432 + a * 2147483648) (hm7 : 0 ≤ m7 ∧ m7 < 128) (hb : 0 ≤ b ∧ b < 2) (hd : 0 ≤ d ∧ d < 16) (hm3 : 0 ≤ m3 ∧ m3 < 8) (hrs1 : 0 ≤ rs1 ∧ rs1 < 32) (hrs2 : 0 ≤ rs2 ∧ rs2 < 32) (hc : 0 ≤ c ∧ c < 64) (ha : 0 ≤ a ∧ a < 2) : 0 ≤ y ∧ y < 4294967296 ∧ y % 128 = m7 ∧ y / 128 % 2 = b ∧ y / 256 % 16 = d ∧ y / 4096 % 8 = m3 ∧ y / 32768 % 32 = rs1 ∧ y / 1048576 % 32 = rs2 ∧ y / 33554432 % 64 = c ∧ y / 2147483648 % 2 = a :=
  ⟨by omega, by omega, dig0 y 128 m7 (b * 1 + d * 2 + m3 * 32 + rs1 * 256 + rs2 * 8192 + c * 262144 + a * 16777216) (by omega) (by omega) (by omega), dig y 128 2 b (d * 1 + m3 * 16 + rs1 * 128 + rs2 * 4096 + c * 131072 + a * 8388608) (m7 * 1) (by decide) (by omega) (by omega) (by omega) (by omega) (by omega), dig y 256 16 d (m3 * 1 + rs1 * 8 + rs2 * 256 + c * 8192 + a * 524288) (m7 * 1 + b * 128) (by decide) (by omega) (by omega) (by omega) (by omega) (by omega), dig y 4096 8 m3 (rs1 * 1 + rs2 * 32 + c * 1024 + a * 65536) (m7 * 1 + b * 128 + d * 256) (by decide) (by omega) (by omega) (by omega) (by omega) (by omega), dig y 32768 32 rs1 (rs2 * 1 + c * 32 + a * 2048) (m7 * 1 + b * 128 + d * 256 + m3 * 4096) (by decide) (by omega) (by omega) (by omega) (by omega) (by omega), dig y 1048576 32 rs2 (c * 1 + a * 64) (m7 * 1 + b * 128 + d * 256 + m3 * 4096 + rs1 * 32768) (by decide) (by omega) (by omega) (by omega) (by omega) (by omega), dig y 33554432 64 c (a * 1) (m7 * 1 + b * 128 + d * 256 + m3 * 4096 + rs1 * 32768 + rs2 * 1048576) (by decide) (by omega) (by omega) (by omega) (by omega) (by omega), dig y 2147483648 2 a (0) (m7 * 1 + b * 128 + d * 256 + m3 * 4096 + rs1 * 32768 + rs2 * 1048576 + c * 33554432) (by decide) (by omega) (by omega) (by omega) (by omega) (by omega)⟩

theorem digs_5 (y m7 d m3 rs1 rs2 c : Int) (h : y = m7 * 1 + d * 128 + m3 * 4096 + rs1 * 32768 + rs2 * 1048576 + c * 33554432) (hm7 : 0 ≤ m7 ∧ m7 < 128) (hd : 0 ≤ d ∧ d < 32) (hm3 : 0 ≤ m3 ∧ m3 < 8) (hrs1 : 0 ≤ rs1 ∧ rs1 < 32) (hrs2 : 0 ≤ rs2 ∧ rs2 < 32) (hc : 0 ≤ c ∧ c < 128) : 0 ≤ y ∧ y < 4294967296 ∧ y % 128 = m7 ∧ y / 128 % 32 = d ∧ y / 4096 % 8 = m3 ∧ y / 32768 % 32 = rs1 ∧ y / 1048576 % 32 = rs2 ∧ y / 33554432 % 128 = c :=
  ⟨by omega, by omega, dig0 y 128 m7 (d * 1 + m3 * 32 + rs1 * 256 + rs2 * 8192 + c * 262144) (by omega) (by omega) (by omega), dig y 128 32 d (m3 * 1 + rs1 * 8 + rs2 * 256 + c * 8192) (m7 * 1) (by decide) (by omega) (by omega) (by omega) (by omega) (by omega), dig y 4096 8 m3 (rs1 * 1 + rs2 * 32 + c * 1024) (m7 * 1 + d * 128) (by decide) (by omega) (by omega) (by omega) (by omega) (by omega), dig y 32768 32 rs1 (rs2 * 1 + c * 32) (m7 * 1 + d * 128 + m3 * 4096) (by decide) (by omega) (by omega) (by omega) (by omega) (by omega), dig y 1048576 32 rs2 (c * 1) (m7 * 1 + d * 128 + m3 * 4096 + rs1 * 32768) (by decide) (by omega) (by omega) (by omega) (by omega) (by omega), dig y 33554432 128 c (0) (m7 * 1 + d * 128 + m3 * 4096 + rs1 * 32768 + rs2 * 1048576) (by decide) (by omega) (by omega) (by omega) (by omega) (by omega)⟩

theorem digs_6 (y m7 rd m3 rs1 rs2 m25 : Int) (h : y = m7 * 1 + rd * 128 + m3 * 4096 + rs1 * 32768 + rs2 * 1048576 + m25 * 33554432) (hm7 : 0 ≤ m7 ∧ m7 < 128) (hrd : 0 ≤ rd ∧ rd < 32) (hm3 : 0 ≤ m3 ∧ m3 < 8) (hrs1 : 0 ≤ rs1 ∧ rs1 < 32) (hrs2 : 0 ≤ rs2 ∧ rs2 < 32) (hm25 : 0 ≤ m25 ∧ m25 < 128) : 0 ≤ y ∧ y < 4294967296 ∧ y % 128 = m7 ∧ y / 128 % 32 = rd ∧ y / 4096 % 8 = m3 ∧ y / 32768 % 32 = rs1 ∧ y / 1048576 % 32 = rs2 ∧ y / 33554432 % 128 = m25 :=
  ⟨by omega, by omega, dig0 y 128 m7 (rd * 1 + m3 * 32 + rs1 * 256 + rs2 * 8192 + m25 * 262144) (by omega) (by omega) (by omega), dig y 128 32 rd (m3 * 1 + rs1 * 8 + rs2 * 256 + m25 * 8192) (m7 * 1) (by decide) (by omega) (by omega) (by omega) (by omega) (by omega), dig y 4096 8 m3 (rs1 * 1 + rs2 * 32 + m25 * 1024) (m7 * 1 + rd * 128) (by decide) (by omega) (by omega) (by omega) (by omega) (by omega), dig y 32768 32 rs1 (rs2 * 1 + m25 * 32) (m7 * 1 + rd * 128 + m3 * 4096) (by decide) (by omega) (by omega) (by omega) (by omega) (by omega), dig y 1048576 32 rs2 (m25 * 1) (m7 * 1 + rd * 128 + m3 * 4096 + rs1 * 32768) (by decide) (by omega) (by omega) (by omega) (by omega) (by omega), dig y 33554432 128 m25 (0) (m7 * 1 + rd * 128 + m3 * 4096 + rs1 * 32768 + rs2 * 1048576) (by decide) (by omega) (by omega) (by omega) (by omega) (by omega)⟩

theorem digs_7 (y m7 rd m3 rs1 i m25 : Int) (h : y = m7 * 1 + rd * 128 + m3 * 4096 + rs1 * 32768 + i * 1048576 + m25 * 33554432) (hm7 : 0 ≤ m7 ∧ m7 < 128) (hrd : 0 ≤ rd ∧ rd < 32) (hm3 : 0 ≤ m3 ∧ m3 < 8) (hrs1 : 0 ≤ rs1 ∧ rs1 < 32) (hi : 0 ≤ i ∧ i < 32) (hm25 : 0 ≤ m25 ∧ m25 < 128) : 0 ≤ y ∧ y < 4294967296 ∧ y % 128 = m7 ∧ y / 128 % 32 = rd ∧ y / 4096 % 8 = m3 ∧ y / 32768 % 32 = rs1 ∧ y / 1048576 % 32 = i ∧ y / 33554432 % 128 = m25 :=
  ⟨by omega, by omega, dig0 y 128 m7 (rd * 1 + m3 * 32 + rs1 * 256 + i * 8192 + m25 * 262144) (by omega) (by omega) (by omega), dig y 128 32 rd (m3 * 1 + rs1 * 8 + i * 256 + m25 * 8192) (m7 * 1) (by decide) (by omega) (by omega) (by omega) (by omega) (by omega), dig y 4096 8 m3 (rs1 * 1 + i * 32 + m25 * 1024) (m7 * 1 + rd * 128) (by decide) (by omega) (by omega) (by omega) (by omega) (by omega), dig y 32768 32 rs1 (i * 1 + m25 * 32) (m7 * 1 + rd * 128 + m3 * 4096) (by decide) (by omega) (by omega) (by omega) (by omega) (by omega), dig y 1048576 32 i (m25 * 1) (m7 * 1 + rd * 128 + m3 * 4096 + rs1 * 32768) (by decide) (by omega) (by omega) (by omega) (by omega) (by omega), dig y 33554432 128 m25 (0) (m7 * 1 + rd * 128 + m3 * 4096 + rs1 * 32768 + i * 1048576) (by decide) (by omega) (by omega) (by omega) (by omega) (by omega)⟩

theorem digs_8 (y m7 rd m3 rs1 csr : Int) (h : y = m7 * 1 + rd * 128 + m3 * 4096 + rs1 * 32768 + csr * 1048576) (hm7 : 0 ≤ m7 ∧ m7 < 128) (hrd : 0 ≤ rd ∧ rd < 32) (hm3 : 0 ≤ m3 ∧ m3 < 8) (hrs1 : 0 ≤ rs1 ∧ rs1 < 32) (hcsr : 0 ≤ csr ∧ csr < 4096) : 0 ≤ y ∧ y < 4294967296 ∧ y % 128 = m7 ∧ y / 128 % 32 = rd ∧ y / 4096 % 8 = m3 ∧ y / 32768 % 32 = rs1 ∧ y / 1048576 % 4096 = csr :=
  ⟨by omega, by omega, dig0 y 128 m7 (rd * 1 + m3 * 32 + rs1 * 256 + csr * 8192) (by omega) (by omega) (by omega), dig y 128 32 rd (m3 * 1 + rs1 * 8 + csr * 256) (m7 * 1) (by decide) (by omega) (by omega) (by omega) (by omega) (by omega), dig y 4096 8 m3 (rs1 * 1 + csr * 32) (m7 * 1 + rd * 128) (by decide) (by omega) (by omega) (by omega) (by omega) (by omega), dig y 32768 32 rs1 (csr * 1) (m7 * 1 + rd * 128 + m3 * 4096) (by decide) (by omega) (by omega) (by omega) (by omega) (by omega), dig y 1048576 4096 csr (0) (m7 * 1 + rd * 128 + m3 * 4096 + rs1 * 32768) (by decide) (by omega) (by omega) (by omega) (by omega) (by omega)⟩

theorem digs_9 (y m7 rd m3 i csr : Int) (h : y = m7 * 1 + rd * 128 + m3 * 4096 + i * 32768 + csr * 1048576) (hm7 : 0 ≤ m7 ∧ m7 < 128) (hrd : 0 ≤ rd ∧ rd < 32) (hm3 : 0 ≤ m3 ∧ m3 < 8) (hi : 0 ≤ i ∧ i < 32) (hcsr : 0 ≤ csr ∧ csr < 4096) : 0 ≤ y ∧ y < 4294967296 ∧ y % 128 = m7 ∧ y / 128 % 32 = rd ∧ y / 4096 % 8 = m3 ∧ y / 32768 % 32 = i ∧ y / 1048576 % 4096 = csr :=
  ⟨by omega, by omega, dig0 y 128 m7 (rd * 1 + m3 * 32 + i * 256 + csr * 8192) (by omega) (by omega) (by omega), dig y 128 32 rd (m3 * 1 + i * 8 + csr * 256) (m7 * 1) (by decide) (by omega) (by omega) (by omega) (by omega) (by omega), dig y 4096 8 m3 (i * 1 + csr * 32) (m7 * 1 + rd * 128) (by decide) (by omega) (by omega) (by omega) (by omega) (by omega), dig y 32768 32 i (csr * 1) (m7 * 1 + rd * 128 + m3 * 4096) (by decide) (by omega) (by omega) (by omega) (by omega) (by omega), dig y 1048576 4096 csr (0) (m7 * 1 + rd * 128 + m3 * 4096 + i * 32768) (by decide) (by omega) (by omega) (by omega) (by omega) (by omega)⟩

end Go.Proofs.YthgolbmngjdbeaaGreatDoor
