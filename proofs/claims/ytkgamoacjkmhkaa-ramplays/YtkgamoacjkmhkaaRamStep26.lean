/- Layer 10: one step, done by both: a store that is refused (6). -/
import Derived.Test.YtkgamoacjkmhkaaRamStepC
import Derived.Test.YtkgamoacjkmhkaaEach
namespace Go.Proofs.Ytkgamoacjkmhkaa
open Go.RowKit
set_option linter.unusedVariables false
set_option linter.unusedSimpArgs false

set_option maxRecDepth 100000 in
set_option maxHeartbeats 2000000 in
theorem step2_6 (R P K : Nat) (b : Nat → Int) (wa : Nat → Bool) (g : Nat → Int) (m : Int) (v : Value) (addr n x : Int) (sv : Option Addr) (len cap : Nat) (w : World) (hK1 : 1 ≤ K) (hK : K ≤ 1024) (hi : IsRam w R P K b wa g) (hr : RefV w P v K b wa g) (hbd : BdB K b) (hg : BdG K g m) (hm : m ≤ 1000) (a0 : 0 ≤ addr) (a1 : addr < 4294967296) (x0 : 0 ≤ x) (x1 : x < 4294967296) (hz : askZ K addr n = 6) :
    Calls Try.prog 14 #[.pointer (some ⟨R, 0, none⟩), v, .agg #[.int .i64 2, .int .u32 addr, .int .i64 n, .int .u32 x, .slice sv len cap]] w fun e w' => ∃ v', e = .returned (.tuple #[v', .bool true]) ∧ StepOut w' R P K v' (m + 1) ∧ Bar P w w' := by
  have HLD : Hid (∀ W : World, IsRam W R P K b wa g → Calls Try.prog 20 #[.pointer (some ⟨R, 0, none⟩), .int .u32 addr, .int .i64 n, .int .u32 x] W fun e w' => e = .returned (.tuple #[.bool false, .int .i64 6]) ∧ w' = W) := fun W hW => by
    have := store_no R P K addr n x W hK hW.ptr a0 a1 (by omega)
    rwa [hz] at this
  have HAS : Hid (∀ (W : World) (s : Option Addr) (c : Nat), Calls Try.prog 25 #[.slice s (64 * K) c, .int .u32 addr, .int .i64 n] W fun e w' => e = .returned (.int .i64 6) ∧ w' = W) := fun W s c => by
    have := rask10_any K s c addr n W hK a0 a1
    rwa [hz] at this
  clear hz
  obtain ⟨B1, B2, B3, c1, c2, c3, rfl, hc, hp, q1, q2, q3⟩ := hr
  have hr : RefV w P (.agg #[.slice (some ⟨B1, 0, none⟩) (64 * K) c1, .slice (some ⟨B2, 0, none⟩) K c2, .slice (some ⟨B3, 0, none⟩) K c3]) K b wa g := ⟨B1, B2, B3, c1, c2, c3, rfl, hc, hp, q1, q2, q3⟩
  obtain ⟨l1, l2⟩ := hi.lt
  obtain ⟨hS, hB0, hsz⟩ := step_start w (.slice (some ⟨B1, 0, none⟩) (64 * K) c1) (.slice (some ⟨B2, 0, none⟩) K c2) (.slice (some ⟨B3, 0, none⟩) K c3) (.int .i64 2) (.int .u32 addr) (.int .i64 n) (.int .u32 x) (.slice sv len cap)
  obtain ⟨W0, hW0⟩ : ∃ W0, W0 = (((w.alloc (.cells #[.slice (some ⟨B1, 0, none⟩) (64 * K) c1, .slice (some ⟨B2, 0, none⟩) K c2, .slice (some ⟨B3, 0, none⟩) K c3] 36)).alloc (.cells #[.int .i64 2, .int .u32 addr, .int .i64 n, .int .u32 x, .slice sv len cap] 42)).alloc (.cells #[.slice none 0 0, .slice none 0 0, .slice none 0 0] 36)) := ⟨_, rfl⟩
  rw [← hW0] at hS hB0 hsz
  have HW0 := Lib.hid hW0
  have HI : Hid (IsRam W0 R P K b wa g) := hi.on hB0
  have HR : Hid (RefW W0 P (w.heap.size + 1 + 1) (.agg #[.slice (some ⟨B1, 0, none⟩) (64 * K) c1, .slice (some ⟨B2, 0, none⟩) K c2, .slice (some ⟨B3, 0, none⟩) K c3]) K b wa g) := (hr.two hK1 (C := w.heap.size + 1 + 1) (by omega)).on hB0
  have HS := Lib.hid hS
  have HST : Hid (StepS w R P K (.slice (some ⟨B1, 0, none⟩) (64 * K) c1) (.slice (some ⟨B2, 0, none⟩) K c2) (.slice (some ⟨B3, 0, none⟩) K c3) (.int .i64 2) (.int .u32 addr) (.int .i64 n) (.int .u32 x) (.slice sv len cap) (.agg #[.slice (some ⟨B1, 0, none⟩) (64 * K) c1, .slice (some ⟨B2, 0, none⟩) K c2, .slice (some ⟨B3, 0, none⟩) K c3]) b wa g W0) := ⟨Bar.of P hB0, ⟨hS.1, hS.2.1⟩, HI.out, HR.out⟩
  have HB0 := Lib.hid hB0
  have HSZ := Lib.hid hsz
  have HL : Hid (R < w.heap.size ∧ P < w.heap.size) := ⟨l1, l2⟩
  have HCC := Lib.hid hc
  have HQ1 : Hid (RowB W0 B1 (64 * K) b) := q1.on hB0
  have HQ2 : Hid (RowW W0 B2 K wa) := q2.on hB0
  have HQ3 : Hid (RowG W0 B3 K g) := q3.on hB0
  have HBD := Lib.hid hbd
  have HG := Lib.hid hg
  clear hi hr hc hp q1 q2 q3 hB0 hsz hS hW0 l1 l2 hbd hg
  go_enter Try.func14, Try.ntmps14
  go_wp2_with fail
  rw [← HW0.out]
  refine (HLD.out _ HI.out).mono ?_
  rintro e w' ⟨rfl, hw⟩; have hw := hw.symm; subst hw
  obtain ⟨⟨b0, b1, b2⟩, ⟨s0, s1, s2, s3, s4⟩, ⟨r0, r1, r2⟩, ⟨z0, z1, z2⟩⟩ : ((W0.cell? ⟨w.heap.size, 0, none⟩ = some (.slice (some ⟨B1, 0, none⟩) (64 * K) c1) ∧ W0.cell? ⟨w.heap.size, 1, none⟩ = some (.slice (some ⟨B2, 0, none⟩) K c2) ∧ W0.cell? ⟨w.heap.size, 2, none⟩ = some (.slice (some ⟨B3, 0, none⟩) K c3)) ∧ (W0.cell? ⟨w.heap.size + 1, 0, none⟩ = some (.int .i64 2) ∧ W0.cell? ⟨w.heap.size + 1, 1, none⟩ = some (.int .u32 addr) ∧ W0.cell? ⟨w.heap.size + 1, 2, none⟩ = some (.int .i64 n) ∧ W0.cell? ⟨w.heap.size + 1, 3, none⟩ = some (.int .u32 x) ∧ W0.cell? ⟨w.heap.size + 1, 4, none⟩ = some (.slice sv len cap)) ∧ (W0.cell? ⟨w.heap.size + 1 + 1, 0, none⟩ = some (.slice none 0 0) ∧ W0.cell? ⟨w.heap.size + 1 + 1, 1, none⟩ = some (.slice none 0 0) ∧ W0.cell? ⟨w.heap.size + 1 + 1, 2, none⟩ = some (.slice none 0 0)) ∧ (W0.frozen? ⟨w.heap.size + 1 + 1, 0, none⟩ = false ∧ W0.frozen? ⟨w.heap.size + 1 + 1, 1, none⟩ = false ∧ W0.frozen? ⟨w.heap.size + 1 + 1, 2, none⟩ = false)) := ⟨HS.out.1.cells, HS.out.2.1.cells, HS.out.2.2.cells, HS.out.2.2.free⟩
  go_wp2_with fail
  refine (HAS.out _ _ _).mono ?_
  rintro e w' ⟨rfl, hw⟩; have hw := hw.symm; subst hw
  go_wp2
  refine bodyPost_ret (v := .tuple #[.agg #[.slice (some ⟨B1, 0, none⟩) (64 * K) c1, .slice (some ⟨B2, 0, none⟩) K c2, .slice (some ⟨B3, 0, none⟩) K c3], .bool true]) (by simp [results, Try.results14, go_sem, r0, r1, r2]) rfl ⟨_, rfl, (StepS.store HST.out HL.out _ _ _).out HBD.out (HG.out.up (by omega))⟩

end Go.Proofs.Ytkgamoacjkmhkaa
