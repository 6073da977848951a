/- Layer 10: one step, whatever it is. -/
import Derived.Test.YtkgamoacjkmhkaaRamStep0
import Derived.Test.YtkgamoacjkmhkaaRamStep1
import Derived.Test.YtkgamoacjkmhkaaRamStep22
import Derived.Test.YtkgamoacjkmhkaaRamStep25
import Derived.Test.YtkgamoacjkmhkaaRamStep26
import Derived.Test.YtkgamoacjkmhkaaRamStep2
import Derived.Test.YtkgamoacjkmhkaaRamStep3n
import Derived.Test.YtkgamoacjkmhkaaRamStep3
import Derived.Test.YtkgamoacjkmhkaaRamStep4n
import Derived.Test.YtkgamoacjkmhkaaRamStep4
import Derived.Test.YtkgamoacjkmhkaaRamSteps
namespace Go.Proofs.Ytkgamoacjkmhkaa
open Go.RowKit
set_option linter.unusedVariables false

theorem step_any (R P K : Nat) (b : Nat → Int) (wa : Nat → Bool) (g : Nat → Int) (m : Int) (v : Value) (s : St) (w : World) (hK1 : 1 ≤ K) (hK : K ≤ 1024) (hi : IsRam w R P K b wa g) (hr : RefV w P v K b wa g) (hbd : BdB K b) (hg : BdG K g m) (hm : m ≤ 1000)
    (hs : 0 ≤ s.addr ∧ s.addr < 4294967296 ∧ 0 ≤ s.x ∧ s.x < 4294967296) (hb : SrcB w s) (hP : s.sl ≠ 0 → ∀ a, s.sv = some a → a.block ≠ P) :
    Calls Try.prog 14 #[.pointer (some ⟨R, 0, none⟩), v, .agg #[.int .i64 s.kind, .int .u32 s.addr, .int .i64 s.n, .int .u32 s.x, .slice s.sv s.sl s.sc]] w fun e w' => ∃ v', e = .returned (.tuple #[v', .bool true]) ∧ StepOut w' R P K v' (m + 1) ∧ Bar P w w' := by
  obtain ⟨kind, addr, n, x, sv, len, cap, f⟩ := s
  obtain ⟨a0, a1, x0, x1⟩ := hs
  obtain ⟨hlc, hlm, hsrc⟩ := hb
  simp only at a0 a1 x0 x1 hlc hlm hsrc hP ⊢
  by_cases k1 : kind = 1
  · subst k1
    rcases askZ_cases K addr n with ⟨_, e⟩ | ⟨_, _, e⟩ | ⟨_, _, _, e⟩ | ⟨_, _, _, e⟩
    · exact step1_2 R P K b wa g m v addr n x sv len cap w hK1 hK hi hr hbd hg hm a0 a1 x0 x1 e
    · exact step1_5 R P K b wa g m v addr n x sv len cap w hK1 hK hi hr hbd hg hm a0 a1 x0 x1 e
    · exact step1_6 R P K b wa g m v addr n x sv len cap w hK1 hK hi hr hbd hg hm a0 a1 x0 x1 e
    · exact step1_yes R P K b wa g m v addr n x sv len cap w hK1 hK hi hr hbd hg hm a0 a1 x0 x1 e
  by_cases k2 : kind = 2
  · subst k2
    rcases askZ_cases K addr n with ⟨_, e⟩ | ⟨_, _, e⟩ | ⟨_, _, _, e⟩ | ⟨_, _, _, e⟩
    · exact step2_2 R P K b wa g m v addr n x sv len cap w hK1 hK hi hr hbd hg hm a0 a1 x0 x1 e
    · exact step2_5 R P K b wa g m v addr n x sv len cap w hK1 hK hi hr hbd hg hm a0 a1 x0 x1 e
    · exact step2_6 R P K b wa g m v addr n x sv len cap w hK1 hK hi hr hbd hg hm a0 a1 x0 x1 e
    · exact step2_yes R P K b wa g m v addr n x sv len cap w hK1 hK hi hr hbd hg hm a0 a1 x0 x1 e
  by_cases k3 : kind = 3
  · subst k3
    cases hp : pgB K n
    · exact step3_no R P K b wa g m v addr n x sv len cap w hK1 hK hi hr hbd hg hm a0 a1 x0 x1 hp
    · obtain ⟨h1, h2⟩ := pgB_yes hp
      exact step3_yes R P K b wa g m v addr n x sv len cap w hK1 hK hi hr hbd hg hm a0 a1 x0 x1 n.toNat (by omega) (by omega)
  by_cases k4 : kind = 4
  · subst k4
    by_cases hl : len = 0
    · exact step4_none R P K b wa g m v addr n x sv len cap w hK1 hK hi hr hbd hg hm a0 a1 x0 x1 hl
    · cases hh : hasB K addr len
      · exact step4_no R P K b wa g m v addr n x sv len cap w hK1 hK hi hr hbd hg hm a0 a1 x0 x1 (by omega) hlm hh
      · rcases hsrc with h0 | ⟨bb, bo, hsv, hc⟩
        · exact absurd h0 hl
        · obtain ⟨h1, h2, h3⟩ := hasB_yes hh
          exact step4_yes R P K b wa g m v addr n x sv len cap w hK1 hK hi hr hbd hg hm a0 a1 x0 x1 bb bo (addr - 2147483648).toNat f hsv (by omega) hlc (by omega) (by omega) (hP hl _ hsv) (fun i hi => (hc i hi).2) (fun i hi => (hc i hi).1)
  · exact step0_any R P K b wa g m v kind addr n x sv len cap w hK1 hK hi hr hbd hg hm a0 a1 x0 x1 k1 k2 k3 k4
end Go.Proofs.Ytkgamoacjkmhkaa
