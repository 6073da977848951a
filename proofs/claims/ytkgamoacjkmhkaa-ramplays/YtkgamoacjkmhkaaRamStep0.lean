/- Layer 10: one step, done by both: any other kind. -/
import Derived.Test.YtkgamoacjkmhkaaRamStepC
import Derived.Test.YtkgamoacjkmhkaaEach
namespace Go.Proofs.Ytkgamoacjkmhkaa
open Go.RowKit
set_option linter.unusedVariables false
set_option linter.unusedSimpArgs false

set_option maxRecDepth 100000 in
set_option maxHeartbeats 2000000 in
theorem step0_any (R P K : Nat) (b : Nat → Int) (wa : Nat → Bool) (g : Nat → Int) (m : Int) (v : Value) (kind : Int) (addr n x : Int) (sv : Option Addr) (len cap : Nat) (w : World) (hK1 : 1 ≤ K) (hK : K ≤ 1024) (hi : IsRam w R P K b wa g) (hr : RefV w P v K b wa g) (hbd : BdB K b) (hg : BdG K g m) (hm : m ≤ 1000) (a0 : 0 ≤ addr) (a1 : addr < 4294967296) (x0 : 0 ≤ x) (x1 : x < 4294967296) (k1 : kind ≠ 1) (k2 : kind ≠ 2) (k3 : kind ≠ 3) (k4 : kind ≠ 4) :
    Calls Try.prog 14 #[.pointer (some ⟨R, 0, none⟩), v, .agg #[.int .i64 kind, .int .u32 addr, .int .i64 n, .int .u32 x, .slice sv len cap]] w fun e w' => ∃ v', e = .returned (.tuple #[v', .bool true]) ∧ StepOut w' R P K v' (m + 1) ∧ Bar P w w' := by
  have e1 : (kind == 1) = false := by simpa using k1
  have e2 : (kind == 2) = false := by simpa using k2
  have e3 : (kind == 3) = false := by simpa using k3
  have e4 : (kind == 4) = false := by simpa using k4
  clear k1 k2 k3 k4
  obtain ⟨B1, B2, B3, c1, c2, c3, rfl, hc, hp, q1, q2, q3⟩ := hr
  have HR : Hid (RefV w P (.agg #[.slice (some ⟨B1, 0, none⟩) (64 * K) c1, .slice (some ⟨B2, 0, none⟩) K c2, .slice (some ⟨B3, 0, none⟩) K c3]) K b wa g) := ⟨B1, B2, B3, c1, c2, c3, rfl, hc, hp, q1, q2, q3⟩
  have HI := Lib.hid hi
  have HBD := Lib.hid hbd
  have HG := Lib.hid hg
  clear hi hc hp q1 q2 q3 hbd hg
  go_enter Try.func14, Try.ntmps14
  go_wp2
  refine bodyPost_ret (v := .tuple #[.agg #[.slice (some ⟨B1, 0, none⟩) (64 * K) c1, .slice (some ⟨B2, 0, none⟩) K c2, .slice (some ⟨B3, 0, none⟩) K c3], .bool true]) (by simp [results, Try.results14, go_sem]) rfl ⟨_, rfl, ?_⟩
  have hb : Below w.heap.size w (((w.alloc (.cells #[.slice (some ⟨B1, 0, none⟩) (64 * K) c1, .slice (some ⟨B2, 0, none⟩) K c2, .slice (some ⟨B3, 0, none⟩) K c3] 36)).alloc (.cells #[.int .i64 kind, .int .u32 addr, .int .i64 n, .int .u32 x, .slice sv len cap] 42)).alloc (.cells #[.slice (some ⟨B1, 0, none⟩) (64 * K) c1, .slice (some ⟨B2, 0, none⟩) K c2, .slice (some ⟨B3, 0, none⟩) K c3] 36)) := (((Below.refl _ _).alloc (Nat.le_refl _) _).alloc (by simp) _).alloc (by simp; omega) _
  exact ⟨⟨b, wa, g, HI.out.on hb, HR.out.on hb, HBD.out, HG.out.up (by omega)⟩, Bar.of P hb⟩
end Go.Proofs.Ytkgamoacjkmhkaa
