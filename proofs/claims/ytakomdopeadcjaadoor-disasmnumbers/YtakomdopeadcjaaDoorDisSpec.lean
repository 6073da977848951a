/- Layer 5: what the program is asked to answer, function by function (premises of the laws' walks); words and lines as lists of signs. -/
import Derived.Test.YtakomdopeadcjaaDoorDisMath
import Derived.Test.YtakomdopeadcjaaDoorDecOp
import Derived.Test.YtakomdopeadcjaaDoorItoa
import Derived.Test.YtakomdopeadcjaaDoorFrame
namespace Go.Proofs.YtakomdopeadcjaaDoor
open Go.RowKit
set_option linter.unusedVariables false

/-- Has it a text? -/
def txB (op rd rs1 rs2 imm csr : Int) : Bool := decide (1 ≤ op ∧ op < 58) && rightOf (formZ op.toNat) rd rs1 rs2 imm csr
theorem txB_t {op rd rs1 rs2 imm csr : Int} (h : txB op rd rs1 rs2 imm csr = true) : ∃ k : Nat, op = k ∧ op.toNat = k ∧ k < 58 ∧ k ≠ 0 ∧ rightOf (formZ k) rd rs1 rs2 imm csr = true := by
  unfold txB at h
  simp only [Bool.and_eq_true, decide_eq_true_eq] at h
  obtain ⟨⟨h1, h2⟩, h3⟩ := h
  exact ⟨op.toNat, by omega, rfl, by omega, by omega, h3⟩
theorem txB_f {op rd rs1 rs2 imm csr : Int} (h : txB op rd rs1 rs2 imm csr = false) : ¬ (1 ≤ op ∧ op < 58) ∨ ∃ k : Nat, op = k ∧ k < 58 ∧ k ≠ 0 ∧ rightOf (formZ k) rd rs1 rs2 imm csr = false := by
  by_cases c : 1 ≤ op ∧ op < 58
  · refine .inr ⟨op.toNat, by omega, by omega, by omega, ?_⟩
    unfold txB at h
    rw [decide_eq_true c, Bool.true_and] at h
    exact h
  · exact .inl c

/-- A word's text. -/
def wordL (x : Int) : List UInt8 := if kindOf x = 0 then [46, 119, 111, 114, 100, 32] ++ numL x else textL (kindOf x) (fldRd x (formZ (kindOf x))) (fldRs1 x (formZ (kindOf x))) (fldRs2 x (formZ (kindOf x))) (immOf x (formZ (kindOf x))) (fldCsr x (formZ (kindOf x)))
/-- The lines of the first k words. -/
def linesL (f : Nat → Int) : Nat → List UInt8
  | 0 => []
  | k + 1 => linesL f k ++ (wordL (f k) ++ [10])

theorem rest_len (k : Nat) (rd rs1 rs2 imm csr : Int) : (restL k rd rs1 rs2 imm csr).length ≤ 80 := by
  have a := numL_len rd
  have b := numL_len rs1
  have c := numL_len rs2
  have d := numL_len (signedOf imm)
  have e := numL_len csr
  have f := numL_len (imm / 4096)
  unfold restL
  repeat' split
  all_goals simp
  all_goals omega
theorem name_len : ∀ k, k < 58 → (nameL.getD k []).length ≤ 8 := by decide +kernel
theorem text_len (k : Nat) (hk : k < 58) (rd rs1 rs2 imm csr : Int) : (textL k rd rs1 rs2 imm csr).length ≤ 88 := by
  unfold textL
  have := rest_len k rd rs1 rs2 imm csr
  have := name_len k hk
  simp only [List.length_append]; omega
theorem word_len (x : Int) : (wordL x).length ≤ 88 := by
  unfold wordL
  split
  · have := numL_len x
    simp; omega
  · exact text_len _ (kind_lt x) _ _ _ _ _
theorem lines_len (f : Nat → Int) : ∀ k, (linesL f k).length ≤ 89 * k
  | 0 => Nat.le_refl _
  | k + 1 => by
    have := lines_len f k
    have := word_len (f k)
    simp only [linesL, List.length_append, List.length_cons, List.length_nil]; omega

/-- Number. -/
def NumP : Prop := ∀ (n : Int) (w : World), -9223372036854775808 ≤ n → n < 9223372036854775808 → PowTab w → Calls Tryd.prog 7 #[.int .i64 n] w fun e w' => e = .returned (.string (bs (numL n))) ∧ Below w.heap.size w w'
/-- Register. -/
def RegP : Prop := ∀ (n : Int) (w : World), -9223372036854775808 ≤ n → n < 9223372036854775808 → PowTab w → Calls Tryd.prog 9 #[.int .i64 n] w fun e w' => e = .returned (.string (bs (120 :: numL n))) ∧ Below w.heap.size w w'
/-- Text. -/
def TextP : Prop := ∀ (op rd rs1 rs2 imm csr : Int) (w : World), 0 ≤ imm → imm < 4294967296 → FormTab w → NameTab w → PowTab w → txB op rd rs1 rs2 imm csr = true → Calls Tryd.prog 12 #[.agg #[.int .i64 op, .int .i64 rd, .int .i64 rs1, .int .i64 rs2, .int .u32 imm, .int .i64 csr]] w fun e w' => e = .returned (.tuple #[.string (bs (textL op.toNat rd rs1 rs2 imm csr)), .int .i64 0]) ∧ Below w.heap.size w w'
def TextQ : Prop := ∀ (op rd rs1 rs2 imm csr : Int) (w : World), 0 ≤ imm → imm < 4294967296 → FormTab w → NameTab w → PowTab w → txB op rd rs1 rs2 imm csr = false → Calls Tryd.prog 12 #[.agg #[.int .i64 op, .int .i64 rd, .int .i64 rs1, .int .i64 rs2, .int .u32 imm, .int .i64 csr]] w fun e w' => e = .returned (.tuple #[.string ⟨#[]⟩, .int .i64 9]) ∧ Below w.heap.size w w'
/-- Word. -/
def WordP : Prop := ∀ (x : Int) (w : World), 0 ≤ x → x < 4294967296 → FormTab w → NameTab w → PowTab w → MatchTab w → Calls Tryd.prog 15 #[.int .u32 x] w fun e w' => e = .returned (.string (bs (wordL x))) ∧ Below w.heap.size w w'
/-- Words as an argument: none, or len of them, f the words. -/
def IsWords (w : World) (a : Option Addr) (len : Nat) (f : Nat → Int) : Prop :=
  len ≤ maxLen ∧ (len = 0 ∨ ∃ b off, a = some ⟨b, off, none⟩ ∧ ∀ i, i < len → w.cell? ⟨b, off + i, none⟩ = some (.int .u32 (f i)) ∧ 0 ≤ f i ∧ f i < 4294967296)
/-- Lines. -/
def LinesP : Prop := ∀ (f : Nat → Int) (a : Option Addr) (len cap : Nat) (w : World), len ≤ 500 → IsWords w a len f → FormTab w → NameTab w → PowTab w → MatchTab w → Calls Tryd.prog 16 #[.slice a len cap] w fun e w' => e = .returned (.string (bs (linesL f len))) ∧ Below w.heap.size w w'

theorem isWords_of {w : World} {a : Option Addr} {len cap : Nat} {z : List Int} (h : IsRow .u32 w a len cap z) : IsWords w a len (fun i => z.getD i 0) := by
  rcases h with ⟨rfl, rfl, rfl, rfl⟩ | ⟨x, rfl, hl, hm, hz, hcell, hwz⟩
  · exact ⟨Nat.zero_le _, .inl rfl⟩
  · refine ⟨by omega, ?_⟩
    by_cases h0 : len = 0
    · exact .inl h0
    · obtain ⟨b, off, spot⟩ := x
      have hspot : spot = none := by simpa [Addr.add] using World.cell?_spot (hcell 0 (by omega))
      subst hspot
      refine .inr ⟨b, off, rfl, fun i hi => ⟨?_, ?_⟩⟩
      · rw [← add_plain]; exact hcell i (by omega)
      · have hi' : i < z.length := by omega
        have := bounds_u32 (hwz (z.getD i 0) (by rw [List.getD_eq_getElem?_getD, List.getElem?_eq_getElem hi']; exact List.getElem_mem hi'))
        show 0 ≤ z.getD i 0 ∧ z.getD i 0 < 4294967296
        omega
theorem IsWords.on {W w1 : World} {a : Option Addr} {len : Nat} {f : Nat → Int} (h : IsWords W a len f) (hb : Below W.heap.size W w1) : IsWords w1 a len f := by
  obtain ⟨hl, h⟩ := h
  refine ⟨hl, ?_⟩
  rcases h with h | ⟨b, off, ha, hc⟩
  · exact .inl h
  · refine .inr ⟨b, off, ha, fun i hi => ⟨?_, (hc i hi).2⟩⟩
    rw [hb.cell (p := ⟨b, off + i, none⟩) (lt_of_cell (hc i hi).1)]; exact (hc i hi).1
theorem IsWords.at {W : World} {a : Option Addr} {len : Nat} {f : Nat → Int} (h : IsWords W a len f) {k : Nat} (hk : k < len) : ∃ b off, a = some ⟨b, off, none⟩ ∧ W.cell? ⟨b, off + k, none⟩ = some (.int .u32 (f k)) ∧ 0 ≤ f k ∧ f k < 4294967296 := by
  rcases h.2 with h | ⟨b, off, ha, hc⟩
  · omega
  · exact ⟨b, off, ha, hc k hk⟩
end Go.Proofs.YtakomdopeadcjaaDoor
