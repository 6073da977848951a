/- Layer 4: the document's own Encode, of any instruction. -/
import Derived.Test.YtlceglloikamnaaDoorEncEncode
import Derived.Test.YtlceglloikamnaaDoorInstRefRight
import Derived.Test.YtlceglloikamnaaDoorDecPat
import Derived.Deep.RegionHeld3
import Derived.Deep.RegionWith
namespace Go.Proofs.YtlceglloikamnaaDoor
open Go.RowKit
set_option linter.unusedVariables false

set_option maxHeartbeats 400000 in
theorem eput_any (a b m p n x : Int) (w : World) (hx0 : 0 ≤ x) (hx1 : x < 4294967296) (n0 : 0 ≤ n) (n1 : n < 4294967296) (h0 : 0 ≤ b) (h1 : b ≤ a) (h2 : a ≤ 31) (hm : pw (a - b + 1) = m) (hp : pw b = p) (hz : x / p % m = 0) :
    Calls Tryd.prog 24 #[.int .u32 x, .int .i64 a, .int .i64 b, .int .u32 n] w fun e w' => e = .returned (.int .u32 (x + n % m * p)) ∧ Q w w' ∧ 0 ≤ x + n % m * p ∧ x + n % m * p < 4294967296 := by
  have HB : Hid (0 ≤ x + n % m * p ∧ x + n % m * p < 4294967296) := (or_free x n a b m p hx0 hx1 n0 h0 h1 h2 hm hp (.inr hz)).2
  have HV : Hid (putOf x b (a - b + 1) n = x + n % m * p) := by
    show putOf x b (a - b + 1) n = x + n % m * p
    unfold putOf bitsOf
    rw [hm, hp, hz]; omega
  clear hm hp hz
  go_enter Tryd.func24, Tryd.ntmps24
  go_wp2_with fail
  refine (rput_any x b (a - b + 1) n _ hx0 hx1 n0 n1 h0 ?_ ?_ ?_).mono ?_
  · omega
  · omega
  · omega
  rintro e w1 ⟨rfl, hq⟩
  rw [HV.out]
  go_wp2
  go_ret
  exact ⟨rfl, hq, HB.out⟩

set_option maxHeartbeats 400000 in
theorem epart_any (a b m p n : Int) (w : World) (n0 : 0 ≤ n) (n1 : n < 4294967296) (h0 : 0 ≤ b) (h1 : b ≤ a) (h2 : a ≤ 31) (hm : pw (a - b + 1) = m) (hp : pw b = p) :
    Calls Tryd.prog 25 #[.int .u32 n, .int .i64 a, .int .i64 b] w fun e w' => e = .returned (.int .u32 (n / p % m)) ∧ Q w w' := by
  have HV : Hid (bitsOf n b (a - b + 1) = n / p % m) := by
    show bitsOf n b (a - b + 1) = n / p % m
    unfold bitsOf
    rw [hm, hp]
  clear hm hp
  go_enter Tryd.func25, Tryd.ntmps25
  go_wp2_with fail
  refine (rbits_any n b (a - b + 1) _ n0 n1 h0 ?_ ?_ ?_).mono ?_
  · omega
  · omega
  · omega
  rintro e w1 ⟨rfl, hq⟩
  rw [HV.out]
  go_wp2
  go_ret
  exact ⟨rfl, hq⟩

theorem patt_any (j : Nat) (hj : j < 57) (w : World) :
    Calls Tryd.prog 11 #[] w fun e w' => e = .returned (.slice (some ⟨w.heap.size, 0, none⟩) 57 57) ∧ Below w.heap.size w w' ∧ w'.cell? ⟨w.heap.size, j * 2 + 1, none⟩ = some (.int .u32 (matchL.getD j 0)) := by
  refine (patterns_any w).mono ?_
  rintro e w' ⟨rfl, rfl⟩
  refine ⟨rfl, (Below.refl _ _).alloc (Nat.le_refl _) _, ?_⟩
  rw [World.cell?_alloc_at _ _ _ _ rfl]
  have := (patCells_at j hj).2
  rw [Nat.mul_comm] at this
  simpa using this

theorem ret_pairb {k : IntKind} {a b : Int} {c : Bool} (h : a = b) : Ending.returned (.tuple #[.int k a, .bool c]) = .returned (.tuple #[.int k b, .bool c]) := by rw [h]

set_option maxHeartbeats 1000000 in
theorem renc_bad (op rd rs1 rs2 imm csr : Int) (w : World) (h : ¬ (1 ≤ op ∧ op < 58)) :
    Calls Tryd.prog 9 #[.agg #[.int .i64 op, .int .i64 rd, .int .i64 rs1, .int .i64 rs2, .int .u32 imm, .int .i64 csr]] w fun e w' => e = .returned (.tuple #[.int .u32 0, .bool false]) ∧ Below w.heap.size w w' := by
  by_cases h0 : op = 0
  · subst h0
    go_enter Tryd.func9, Tryd.ntmps9
    go_wp2
    go_ret2
    exact ⟨rfl, (Below.refl _ _).alloc (Nat.le_refl _) _⟩
  · have hn : (op == 0) = false := by simpa using h0
    have ho : opB op = false := opB_f (by omega)
    go_enter Tryd.func9, Tryd.ntmps9
    go_wp2_with fail
    refine (rright_no op rd rs1 rs2 imm csr _ ho).mono ?_
    rintro e w1 ⟨rfl, hb⟩
    go_wp2
    go_ret2
    refine ⟨rfl, ((Below.refl _ _).alloc (Nat.le_refl _) _).trans (hb.mono ?_)⟩
    simp

set_option maxHeartbeats 1000000 in
theorem renc_no (k : Nat) (rd rs1 rs2 imm csr : Int) (w : World) (hk : k < 58) (hk0 : k ≠ 0) (i0 : 0 ≤ imm) (i1 : imm < 4294967296) (hr : rightOf (formZ k) rd rs1 rs2 imm csr = false) :
    Calls Tryd.prog 9 #[.agg #[.int .i64 k, .int .i64 rd, .int .i64 rs1, .int .i64 rs2, .int .u32 imm, .int .i64 csr]] w fun e w' => e = .returned (.tuple #[.int .u32 0, .bool false]) ∧ Below w.heap.size w w' := by
  have HR : Hid (rightOf (formZ k) rd rs1 rs2 imm csr = false) := hr
  have hn := eneb hk0
  clear hr
  go_enter Tryd.func9, Tryd.ntmps9
  go_wp2_with fail
  refine (rright_yes k rd rs1 rs2 imm csr _ hk i0 i1).mono ?_
  rw [HR.out]
  rintro e w1 ⟨rfl, hb⟩
  go_wp2
  go_ret2
  refine ⟨rfl, ((Below.refl _ _).alloc (Nat.le_refl _) _).trans (hb.mono ?_)⟩
  simp

theorem free_of (x p m H L : Int) (hp : 0 < p) (h : x = p * (m * H) + L) (h0 : 0 ≤ L) (h1 : L < p) : x / p % m = 0 := by
  rw [h, Int.add_comm, Int.add_mul_ediv_left _ _ (by omega), Int.ediv_eq_zero_of_lt h0 h1, Int.zero_add, Int.mul_emod_right]
theorem m_split2 (m : Int) (h0 : 0 ≤ m) (h : m < 32768 ∧ m / 128 % 32 = 0) : ∃ m3 m7 : Int, m = m3 * 4096 + m7 ∧ (0 ≤ m3 ∧ m3 < 8) ∧ 0 ≤ m7 ∧ m7 < 128 := ⟨m / 4096, m % 128, by omega, by omega, by omega, by omega⟩
theorem m_split3 (m : Int) (h0 : 0 ≤ m) (h1 : m < 4294967296) (h : m / 128 % 32 = 0 ∧ m / 32768 % 1024 = 0) : ∃ m25 m3 m7 : Int, m = m25 * 33554432 + m3 * 4096 + m7 ∧ (0 ≤ m25 ∧ m25 < 128) ∧ (0 ≤ m3 ∧ m3 < 8) ∧ 0 ≤ m7 ∧ m7 < 128 := ⟨m / 33554432, m / 4096 % 8, m % 128, by omega, by omega, by omega, by omega, by omega⟩

end Go.Proofs.YtlceglloikamnaaDoor
