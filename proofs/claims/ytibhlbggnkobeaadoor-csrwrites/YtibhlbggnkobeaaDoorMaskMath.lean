/- Layer 9 as mathematics: the registers of control in a list; what is kept of a word. -/
import Derived.Laws.BitsAllLaws
import Derived.RowKit
namespace Go.Proofs.YtibhlbggnkobeaaDoor
open Go.RowKit
set_option linter.unusedVariables false

def mnumL : List Int := [768, 769, 772, 773, 832, 833, 834, 835, 836, 2816, 2818, 2944, 2946, 3072, 3073, 3074, 3200, 3201, 3202, 3857, 3858, 3859, 3860]
def mnameL : List (List UInt8) := [[109, 115, 116, 97, 116, 117, 115], [109, 105, 115, 97], [109, 105, 101], [109, 116, 118, 101, 99], [109, 115, 99, 114, 97, 116, 99, 104], [109, 101, 112, 99], [109, 99, 97, 117, 115, 101], [109, 116, 118, 97, 108], [109, 105, 112], [109, 99, 121, 99, 108, 101], [109, 105, 110, 115, 116, 114, 101, 116], [109, 99, 121, 99, 108, 101, 104], [109, 105, 110, 115, 116, 114, 101, 116, 104], [99, 121, 99, 108, 101], [116, 105, 109, 101], [105, 110, 115, 116, 114, 101, 116], [99, 121, 99, 108, 101, 104], [116, 105, 109, 101, 104], [105, 110, 115, 116, 114, 101, 116, 104], [109, 118, 101, 110, 100, 111, 114, 105, 100], [109, 97, 114, 99, 104, 105, 100], [109, 105, 109, 112, 105, 100], [109, 104, 97, 114, 116, 105, 100]]
def mkeptL : List Int := [136, 0, 2184, 4294967293, 4294967295, 4294967292, 4294967295, 4294967295, 0, 4294967295, 4294967295, 4294967295, 4294967295, 0, 0, 0, 0, 0, 0, 0, 0, 0, 0]
def mfixL : List Int := [6144, 1073746176, 0, 0, 0, 0, 0, 0, 0, 0, 0, 0, 0, 0, 0, 0, 0, 0, 0, 0, 0, 0, 0]
def mnum (k : Nat) : Int := mnumL.getD k 0
def mname (k : Nat) : ByteArray := ⟨(mnameL.getD k []).toArray⟩
def mkept (k : Nat) : Int := mkeptL.getD k 0
def mfix (k : Nat) : Int := mfixL.getD k 0
def mfast (k : Nat) : Bool := decide (mnum k / 1024 % 4 = 3)

theorem mnum_bd : ∀ k, k < 23 → 0 < mnum k ∧ mnum k < 4096 := by decide +kernel
theorem mkept_bd : ∀ k, k < 23 → 0 ≤ mkept k ∧ mkept k < 4294967296 := by decide +kernel
theorem mfix_bd : ∀ k, k < 23 → 0 ≤ mfix k ∧ mfix k < 4294967296 := by decide +kernel
theorem mnum_apart : ∀ i, i < 23 → ∀ j, j < i → mnum j ≠ mnum i := by decide +kernel
theorem mnameL_apart : ∀ i, i < 23 → ∀ j, j < i → mnameL.getD j [] ≠ mnameL.getD i [] := by decide +kernel
theorem mname_apart (i j : Nat) (hi : i < 23) (hj : j < i) : mname j ≠ mname i := by
  intro h
  apply mnameL_apart i hi j hj
  have : (mnameL.getD j []).toArray = (mnameL.getD i []).toArray := congrArg ByteArray.data h
  simpa using this

/-- A number's place, or there is none. -/
theorem mplace (c : Int) : (∃ k, k < 23 ∧ mnum k = c) ∨ ∀ k, k < 23 → mnum k ≠ c := by
  by_cases h : ∃ k, k < 23 ∧ mnum k = c
  · exact .inl h
  · exact .inr fun k hk he => h ⟨k, hk, he⟩
theorem mspot (s : ByteArray) : (∃ k, k < 23 ∧ mname k = s) ∨ ∀ k, k < 23 → mname k ≠ s := by
  by_cases h : ∃ k, k < 23 ∧ mname k = s
  · exact .inl h
  · exact .inr fun k hk he => h ⟨k, hk, he⟩

/-- What a register has behind a word. -/
def mlegal (k : Nat) (x : Int) : Int := bits .or .u32 (bits .and .u32 x (mkept k)) (mfix k)

theorem nat_keep (x k f : Nat) : (x &&& k ||| f) &&& k ||| f = x &&& k ||| f := by
  apply Nat.eq_of_testBit_eq
  intro i
  simp only [Nat.testBit_or, Nat.testBit_and]
  cases x.testBit i <;> cases k.testBit i <;> cases f.testBit i <;> rfl

theorem legal_nat (x k f : Int) (x0 : 0 ≤ x) (x1 : x < 4294967296) (k0 : 0 ≤ k) (k1 : k < 4294967296) (f0 : 0 ≤ f) (f1 : f < 4294967296) :
    0 ≤ bits .or .u32 (bits .and .u32 x k) f ∧ bits .or .u32 (bits .and .u32 x k) f < 4294967296 ∧
    bits .or .u32 (bits .and .u32 (bits .or .u32 (bits .and .u32 x k) f) k) f = bits .or .u32 (bits .and .u32 x k) f := by
  obtain ⟨X, rfl⟩ := Int.eq_ofNat_of_zero_le x0
  obtain ⟨K, rfl⟩ := Int.eq_ofNat_of_zero_le k0
  obtain ⟨F, rfl⟩ := Int.eq_ofNat_of_zero_le f0
  have hx : X < 4294967296 := by omega
  have hk : K < 4294967296 := by omega
  have hf : F < 4294967296 := by omega
  have a1 : X &&& K < 4294967296 := Nat.lt_of_le_of_lt Nat.and_le_left hx
  have a2 : X &&& K ||| F < 4294967296 := Nat.or_lt_two_pow (n := 32) a1 hf
  have a3 : (X &&& K ||| F) &&& K < 4294967296 := Nat.lt_of_le_of_lt Nat.and_le_left a2
  rw [u32_and_nat X K hx hk, u32_or_nat _ F a1 hf, u32_and_nat _ K a2 hk, u32_or_nat _ F a3 hf, nat_keep]
  exact ⟨by omega, by omega, rfl⟩

theorem mlegal_bd (k : Nat) (hk : k < 23) (x : Int) (x0 : 0 ≤ x) (x1 : x < 4294967296) : 0 ≤ mlegal k x ∧ mlegal k x < 4294967296 := by
  have a := mkept_bd k hk
  have b := mfix_bd k hk
  have := legal_nat x (mkept k) (mfix k) x0 x1 a.1 a.2 b.1 b.2
  exact ⟨this.1, this.2.1⟩
theorem mlegal_again (k : Nat) (hk : k < 23) (x : Int) (x0 : 0 ≤ x) (x1 : x < 4294967296) : mlegal k (mlegal k x) = mlegal k x := by
  have a := mkept_bd k hk
  have b := mfix_bd k hk
  exact (legal_nat x (mkept k) (mfix k) x0 x1 a.1 a.2 b.1 b.2).2.2

/-- Does an instruction write? -/
def mwrites (op rs1 imm : Int) : Bool :=
  if op = 42 ∨ op = 45 then true else if op = 43 ∨ op = 44 then (rs1 != 0) else if op = 46 ∨ op = 47 then (imm != 0) else false

end Go.Proofs.YtibhlbggnkobeaaDoor
