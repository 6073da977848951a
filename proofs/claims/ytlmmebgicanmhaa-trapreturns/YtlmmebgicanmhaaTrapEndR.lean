/- Layer 17: the walk of TrapReturns. -/
import Derived.Test.YtlmmebgicanmhaaTrapAwake
import Derived.Test.YtlmmebgicanmhaaTrapEndM
import Derived.Test.YtlmmebgicanmhaaTrapRef
namespace Go.Proofs.Ytlmmebgicanmhaa
open Go.RowKit
set_option linter.unusedVariables false
set_option linter.unusedSimpArgs false
namespace trapReturns

set_option maxHeartbeats 3000000 in
set_option maxRecDepth 100000 in
theorem walk (K : Nat → Int) (w : World) (hk : KsB K) :
    Calls Try.prog 4 #[.agg #[.int .u32 (K 0), .int .u32 (K 1), .int .u32 (K 2), .int .u32 (K 3), .int .u32 (K 4), .int .u32 (K 5), .int .u32 (K 6)]] w fun e w' => e = .returned (.bool true) ∧ Below w.heap.size w w' := by
  have HG : Hid (∀ W : World, Calls Try.prog 12 #[.agg #[.int .u32 (K 0), .int .u32 (K 1), .int .u32 (K 2), .int .u32 (K 3), .int .u32 (K 4), .int .u32 (K 5), .int .u32 (K 6)]] W fun e w' => e = .returned (.tuple #[.agg #[.int .u32 ((retK K) 0), .int .u32 ((retK K) 1), .int .u32 ((retK K) 2), .int .u32 ((retK K) 3), .int .u32 ((retK K) 4), .int .u32 ((retK K) 5), .int .u32 ((retK K) 6)], .int .u32 (K 4)]) ∧ Below W.heap.size W w') := fun W => gret_any K W hk
  have HR : Hid (∀ W : World, Calls Try.prog 13 #[.agg #[.int .u32 (K 0), .int .u32 (K 1), .int .u32 (K 2), .int .u32 (K 3), .int .u32 (K 4), .int .u32 (K 5), .int .u32 (K 6)]] W fun e w' => e = .returned (.tuple #[.agg #[.int .u32 ((retK K) 0), .int .u32 ((retK K) 1), .int .u32 ((retK K) 2), .int .u32 ((retK K) 3), .int .u32 ((retK K) 4), .int .u32 ((retK K) 5), .int .u32 ((retK K) 6)], .int .u32 (K 4)]) ∧ Below W.heap.size W w') := fun W => rret17_any K W hk
  generalize retK K = R at *
  clear hk
  obtain ⟨W0, hW0⟩ : ∃ W0, W0 = w.alloc (.cells #[.int .u32 (K 0), .int .u32 (K 1), .int .u32 (K 2), .int .u32 (K 3), .int .u32 (K 4), .int .u32 (K 5), .int .u32 (K 6)] 24) := ⟨_, rfl⟩
  have HA0 : Hid (IsKs W0 w.heap.size K ∧ Below w.heap.size w W0) := by rw [hW0]; exact ⟨ks_new w K, (Below.refl _ _).alloc (Nat.le_refl _) _⟩
  have HW0 := Lib.hid hW0
  clear hW0
  go_enter Try.func4, Try.ntmps4
  go_wp2_with fail
  rw [← HW0.out]
  refine (HG.out _).mono ?_
  rintro e w1 ⟨rfl, hb1⟩
  obtain ⟨U1, hU1⟩ : ∃ U, U = w1.alloc (.cells #[.int .u32 (R 0), .int .u32 (R 1), .int .u32 (R 2), .int .u32 (R 3), .int .u32 (R 4), .int .u32 (R 5), .int .u32 (R 6)] 24) := ⟨_, rfl⟩
  have ha1 : IsKs U1 w.heap.size K ∧ IsKs U1 w1.heap.size R ∧ Below w.heap.size w U1 := by
    rw [hU1]; exact ⟨(HA0.out.1.on hb1).alloc _, ks_new w1 R, below_alloc (below_call HA0.out.2 hb1) _⟩
  have HA1 := Lib.hid ha1
  obtain ⟨⟨q0, q1, q2, q3, q4, q5, q6⟩, -⟩ := seven_cells ha1.1
  rw [hU1] at q0 q1 q2 q3 q4 q5 q6
  have HU1 := Lib.hid hU1
  clear ha1 hU1 hb1
  go_wp2_with fail
  rw [← HU1.out]
  clear q0 q1 q2 q3 q4 q5 q6
  refine (HR.out _).mono ?_
  rintro e w2 ⟨rfl, hb2⟩
  obtain ⟨U2, hU2⟩ : ∃ U, U = w2.alloc (.cells #[.int .u32 (R 0), .int .u32 (R 1), .int .u32 (R 2), .int .u32 (R 3), .int .u32 (R 4), .int .u32 (R 5), .int .u32 (R 6)] 24) := ⟨_, rfl⟩
  have ha2 : IsKs U2 w1.heap.size R ∧ IsKs U2 w2.heap.size R ∧ Below w.heap.size w U2 := by
    rw [hU2]; exact ⟨(HA1.out.2.1.on hb2).alloc _, ks_new w2 R, below_alloc (below_call HA1.out.2.2 hb2) _⟩
  have HA2 := Lib.hid ha2
  obtain ⟨⟨q0, q1, q2, q3, q4, q5, q6⟩, -⟩ := seven_cells ha2.1
  rw [hU2] at q0 q1 q2 q3 q4 q5 q6
  have HU2 := Lib.hid hU2
  clear ha2 hU2 hb2
  go_wp2_with fail
  rw [← HU2.out]
  refine (awake17_any _).mono ?_
  rintro e w3 ⟨rfl, hb3⟩
  have HB : Hid (Below w.heap.size w w3) := below_call HA2.out.2.2 hb3
  clear hb3
  go_wp2
  go_ret
  exact ⟨rfl, HB.out⟩
end trapReturns
end Go.Proofs.Ytlmmebgicanmhaa
