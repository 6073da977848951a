/- Layer 3: walks of DecodeApart, DecodeTurned. -/
import Derived.Test.YtfkcknockapjaaaDoorDecLaws
namespace Go.Proofs.YtfkcknockapjaaaDoor
open Go.RowKit
set_option linter.unusedVariables false

theorem ins_six (x : Int) : ∃ op rd rs1 rs2 imm csr : Int, op = kindOf x ∧ insV x = .agg #[.int .i64 op, .int .i64 rd, .int .i64 rs1, .int .i64 rs2, .int .u32 imm, .int .i64 csr] := ⟨_, _, _, _, _, _, rfl, rfl⟩

theorem ins_one (a b : Int) (ha0 : 0 ≤ a) (ha1 : a < 4294967296) (hb0 : 0 ≤ b) (hb1 : b < 4294967296) (hk : ((kindOf a : Nat) : Int) ≠ 0) (h : insV a = insV b) : a = b := by
  unfold insV at h
  simp only [Value.agg.injEq, Array.mk.injEq, List.cons.injEq, Value.int.injEq, true_and, and_true] at h
  obtain ⟨h0, h1, h2, h3, h4, h5⟩ := h
  have e : kindOf a = kindOf b := by omega
  rw [← e] at h1 h2 h3 h4 h5
  exact words_one a b ha0 ha1 hb0 hb1 (by omega) e h1 h2 h3 h4 h5

namespace decodeApart
set_option maxHeartbeats 1000000 in
theorem walk (a b : Int) (w : World) (w0 : (Lit.int .u32 a).wf = true) (w1 : (Lit.int .u32 b).wf = true) (tf : FormTab w) (tm : MatchTab w) :
    Calls Tryd.prog 5 #[.int .u32 a, .int .u32 b] w fun e w' => e = .returned (.bool true) ∧ Below w.heap.size w w' := by
  have ha := bounds_u32 w0
  have hb := bounds_u32 w1
  have ha0 := ha.1
  have ha1 : a < 4294967296 := by omega
  have hb0 := hb.1
  have hb1 : b < 4294967296 := by omega
  have HF : Hid (FormTab w) := tf
  have HM : Hid (MatchTab w) := tm
  clear tf tm w0 w1 ha hb
  have one := ins_one a b ha0 ha1 hb0 hb1
  obtain ⟨op, rd, rs1, rs2, imm, csr, hk, hI⟩ := ins_six a
  obtain ⟨op', rd', rs1', rs2', imm', csr', hk', hI'⟩ := ins_six b
  have HI : Hid (insV a = .agg #[.int .i64 op, .int .i64 rd, .int .i64 rs1, .int .i64 rs2, .int .u32 imm, .int .i64 csr]) := hI
  have HI' : Hid (insV b = .agg #[.int .i64 op', .int .i64 rd', .int .i64 rs1', .int .i64 rs2', .int .u32 imm', .int .i64 csr']) := hI'
  have same : Hid (a = b → op = op' ∧ rd = rd' ∧ rs1 = rs1' ∧ rs2 = rs2' ∧ imm = imm' ∧ csr = csr') := fun h => by
    subst h
    rw [hI] at hI'
    simpa using hI'
  have ONE : Hid (op ≠ 0 → op = op' → rd = rd' → rs1 = rs1' → rs2 = rs2' → imm = imm' → csr = csr' → a = b) := by
    intro h0 e0 e1 e2 e3 e4 e5
    refine one (by omega) ?_
    rw [hI, hI', e0, e1, e2, e3, e4, e5]
  clear hI hI' one hk hk'
  go_enter Tryd.func5, Tryd.ntmps5
  go_wp2_with fail
  refine (decode_any a _ ha0 ha1 HF.out HM.out).mono ?_
  rintro e w1 ⟨rfl, k1⟩
  rw [HI.out]
  go_wp2_with fail
  have HB : Below w.heap.size w (w1.alloc (.cells #[.int .i64 op, .int .i64 rd, .int .i64 rs1, .int .i64 rs2, .int .u32 imm, .int .i64 csr] 24)) := k1.alloc k1.size _
  refine (decode_any b _ hb0 hb1 (FormTab.below HF.out HB) (MatchTab.below HM.out HB)).mono ?_
  rintro e w2 ⟨rfl, k2⟩
  rw [HI'.out]
  obtain ⟨c0, c1, c2, c3, c4, c5⟩ := Six.on (six_new w1 _ rfl 24 op rd rs1 rs2 imm csr) k2
  have HB2 : Below w.heap.size w w2 := HB.trans (k2.mono HB.size)
  have hne : w1.heap.size < w2.heap.size := by have := k2.size; simp at this; omega
  clear k2 HB k1 HI HI'
  by_cases hab : a = b
  · obtain ⟨rfl, rfl, rfl, rfl, rfl, rfl⟩ := same.out hab
    clear same ONE
    subst hab
    by_cases hz : op = 0
    · subst hz
      go_wp2_with fail
      all_goals
        first
        | exact absurd (ONE.out hz (by assumption) (by assumption) (by assumption) (by assumption) (by assumption) (by assumption)) hab
        | (refine (dawake_any _ (FormTab.below HF.out (HB2.alloc HB2.size _)) (MatchTab.below HM.out (HB2.alloc HB2.size _))).mono ?_
           rintro e w3 ⟨rfl, k3⟩
           go_wp2
           go_ret
           exact ⟨rfl, (HB2.alloc HB2.size _).trans (k3.mono (HB2.alloc HB2.size _).size)⟩)
    · have hz' : (op == 0) = false := by simpa using hz
      go_wp2_with fail
      all_goals
        first
        | exact absurd (ONE.out hz (by assumption) (by assumption) (by assumption) (by assumption) (by assumption) (by assumption)) hab
        | (refine (dawake_any _ (FormTab.below HF.out (HB2.alloc HB2.size _)) (MatchTab.below HM.out (HB2.alloc HB2.size _))).mono ?_
           rintro e w3 ⟨rfl, k3⟩
           go_wp2
           go_ret
           exact ⟨rfl, (HB2.alloc HB2.size _).trans (k3.mono (HB2.alloc HB2.size _).size)⟩)
  · have hab' : (a == b) = false := by simpa using hab
    have hab2 : (a != b) = true := by simpa using hab
    by_cases hz : op = 0
    · subst hz
      go_wp2_with fail
      all_goals
        first
        | exact absurd (ONE.out hz (by assumption) (by assumption) (by assumption) (by assumption) (by assumption) (by assumption)) hab
        | (refine (dawake_any _ (FormTab.below HF.out (HB2.alloc HB2.size _)) (MatchTab.below HM.out (HB2.alloc HB2.size _))).mono ?_
           rintro e w3 ⟨rfl, k3⟩
           go_wp2
           go_ret
           exact ⟨rfl, (HB2.alloc HB2.size _).trans (k3.mono (HB2.alloc HB2.size _).size)⟩)
    · have hz' : (op == 0) = false := by simpa using hz
      go_wp2_with fail
      all_goals
        first
        | exact absurd (ONE.out hz (by assumption) (by assumption) (by assumption) (by assumption) (by assumption) (by assumption)) hab
        | (refine (dawake_any _ (FormTab.below HF.out (HB2.alloc HB2.size _)) (MatchTab.below HM.out (HB2.alloc HB2.size _))).mono ?_
           rintro e w3 ⟨rfl, k3⟩
           go_wp2
           go_ret
           exact ⟨rfl, (HB2.alloc HB2.size _).trans (k3.mono (HB2.alloc HB2.size _).size)⟩)
end decodeApart

theorem turned (a b : Int) (h0 : 0 ≤ a) (h1 : a < 4294967296) : ∃ c, bits .xor .u32 a (2 ^ (b % 32).toNat % 4294967296) = c ∧ 0 ≤ c ∧ c < 4294967296 ∧ a ≠ c := by
  refine ⟨_, rfl, ?_⟩
  obtain ⟨A, rfl⟩ := Int.eq_ofNat_of_zero_le h0
  have hn : (b % 32).toNat < 32 := by omega
  generalize (b % 32).toNat = n at *
  have hp : 2 ^ n < 4294967296 := Nat.pow_lt_pow_right (a := 2) (m := n) (n := 32) (by omega) hn
  have hp0 : 0 < 2 ^ n := Nat.pow_pos (by omega)
  have e : (2 : Int) ^ n % 4294967296 = ((2 ^ n : Nat) : Int) := by
    rw [show (2 : Int) ^ n = ((2 ^ n : Nat) : Int) from by simp]
    exact Int.emod_eq_of_lt (by omega) (by omega)
  rw [e, u32_xor_nat A (2 ^ n) (by omega) hp]
  have l := Nat.xor_lt_two_pow (n := 32) (x := A) (y := 2 ^ n) (by omega) hp
  refine ⟨by omega, by omega, ?_⟩
  intro h
  have h' : A = A ^^^ 2 ^ n := by omega
  have : A ^^^ A = A ^^^ (A ^^^ 2 ^ n) := congrArg (A ^^^ ·) h'
  rw [Nat.xor_self, ← Nat.xor_assoc, Nat.xor_self, Nat.zero_xor] at this
  omega

namespace decodeTurned
set_option maxHeartbeats 1000000 in
theorem walk (a b : Int) (w : World) (w0 : (Lit.int .u32 a).wf = true) (w1 : (Lit.int .u8 b).wf = true) (tf : FormTab w) (tm : MatchTab w) :
    Calls Tryd.prog 6 #[.int .u32 a, .int .u8 b] w fun e w' => e = .returned (.bool true) ∧ Below w.heap.size w w' := by
  have ha := bounds_u32 w0
  have hb := bounds_u8 w1
  have ha0 := ha.1
  have ha1 : a < 4294967296 := by omega
  have hb0 := hb.1
  have HF : Hid (FormTab w) := tf
  have HM : Hid (MatchTab w) := tm
  clear tf tm w0 w1 ha
  obtain ⟨c, hc, hc0, hc1, hac⟩ := turned a b ha0 ha1
  have HC : Hid (bits .xor .u32 a (2 ^ (b % 32).toNat % 4294967296) = c) := hc
  clear hc
  have one := ins_one a c ha0 ha1 hc0 hc1
  obtain ⟨op, rd, rs1, rs2, imm, csr, hk, hI⟩ := ins_six a
  obtain ⟨op', rd', rs1', rs2', imm', csr', hk', hI'⟩ := ins_six c
  have HI : Hid (insV a = .agg #[.int .i64 op, .int .i64 rd, .int .i64 rs1, .int .i64 rs2, .int .u32 imm, .int .i64 csr]) := hI
  have HI' : Hid (insV c = .agg #[.int .i64 op', .int .i64 rd', .int .i64 rs1', .int .i64 rs2', .int .u32 imm', .int .i64 csr']) := hI'
  have ONE : Hid (op ≠ 0 → op = op' → rd = rd' → rs1 = rs1' → rs2 = rs2' → imm = imm' → csr = csr' → a = c) := by
    intro h0 e0 e1 e2 e3 e4 e5
    refine one (by omega) ?_
    rw [hI, hI', e0, e1, e2, e3, e4, e5]
  clear hI hI' one hk hk'
  go_enter Tryd.func6, Tryd.ntmps6
  go_wp2_with fail
  refine (decode_any a _ ha0 ha1 HF.out HM.out).mono ?_
  rintro e w1 ⟨rfl, k1⟩
  rw [HI.out]
  go_wp2_with fail
  rw [HC.out]
  have HB : Below w.heap.size w (w1.alloc (.cells #[.int .i64 op, .int .i64 rd, .int .i64 rs1, .int .i64 rs2, .int .u32 imm, .int .i64 csr] 24)) := k1.alloc k1.size _
  refine (decode_any c _ hc0 hc1 (FormTab.below HF.out HB) (MatchTab.below HM.out HB)).mono ?_
  rintro e w2 ⟨rfl, k2⟩
  rw [HI'.out]
  obtain ⟨c0, c1, c2, c3, c4, c5⟩ := Six.on (six_new w1 _ rfl 24 op rd rs1 rs2 imm csr) k2
  have HB2 : Below w.heap.size w w2 := HB.trans (k2.mono HB.size)
  have hne : w1.heap.size < w2.heap.size := by have := k2.size; simp at this; omega
  clear k2 HB k1 HI HI'
  by_cases hz : op = 0
  · subst hz
    go_wp2_with fail
    all_goals
      first
      | exact absurd (ONE.out hz (by assumption) (by assumption) (by assumption) (by assumption) (by assumption) (by assumption)) hac
      | (refine (dawake_any _ (FormTab.below HF.out (HB2.alloc HB2.size _)) (MatchTab.below HM.out (HB2.alloc HB2.size _))).mono ?_
         rintro e w3 ⟨rfl, k3⟩
         go_wp2
         go_ret
         exact ⟨rfl, (HB2.alloc HB2.size _).trans (k3.mono (HB2.alloc HB2.size _).size)⟩)
  · have hz' : (op == 0) = false := by simpa using hz
    go_wp2_with fail
    all_goals
      first
      | exact absurd (ONE.out hz (by assumption) (by assumption) (by assumption) (by assumption) (by assumption) (by assumption)) hac
      | (refine (dawake_any _ (FormTab.below HF.out (HB2.alloc HB2.size _)) (MatchTab.below HM.out (HB2.alloc HB2.size _))).mono ?_
         rintro e w3 ⟨rfl, k3⟩
         go_wp2
         go_ret
         exact ⟨rfl, (HB2.alloc HB2.size _).trans (k3.mono (HB2.alloc HB2.size _).size)⟩)
end decodeTurned
end Go.Proofs.YtfkcknockapjaaaDoor
