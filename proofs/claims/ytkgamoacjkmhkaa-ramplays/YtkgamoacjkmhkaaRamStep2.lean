/- Layer 10: one step, done by both: a store. -/
import Derived.Test.YtkgamoacjkmhkaaRamStepC
import Derived.Test.YtkgamoacjkmhkaaEach
namespace Go.Proofs.Ytkgamoacjkmhkaa
open Go.RowKit
set_option linter.unusedVariables false
set_option linter.unusedSimpArgs false

set_option maxRecDepth 100000 in
set_option maxHeartbeats 2000000 in
theorem step2_yes (R P K : Nat) (b : Nat → Int) (wa : Nat → Bool) (g : Nat → Int) (m : Int) (v : Value) (addr n x : Int) (sv : Option Addr) (len cap : Nat) (w : World) (hK1 : 1 ≤ K) (hK : K ≤ 1024) (hi : IsRam w R P K b wa g) (hr : RefV w P v K b wa g) (hbd : BdB K b) (hg : BdG K g m) (hm : m ≤ 1000) (a0 : 0 ≤ addr) (a1 : addr < 4294967296) (x0 : 0 ≤ x) (x1 : x < 4294967296) (hz : askZ K addr n = 0) :
    Calls Try.prog 14 #[.pointer (some ⟨R, 0, none⟩), v, .agg #[.int .i64 2, .int .u32 addr, .int .i64 n, .int .u32 x, .slice sv len cap]] w fun e w' => ∃ v', e = .returned (.tuple #[v', .bool true]) ∧ StepOut w' R P K v' (m + 1) ∧ Bar P w w' := by
  obtain ⟨hs, ho, hh⟩ := ask_ok hz
  have h3 := hasB_yes hh
  obtain ⟨k, rfl⟩ := Int.eq_ofNat_of_zero_le (show 0 ≤ n by omega)
  obtain ⟨a, ha⟩ : ∃ a, (addr - 2147483648).toNat = a := ⟨_, rfl⟩
  obtain ⟨p, hp⟩ : ∃ p, a / 64 = p := ⟨_, rfl⟩
  have hk4 : 1 ≤ k ∧ k ≤ 4 := by have := sizeB_yes hs; omega
  have HLD : Hid (∀ W : World, IsRam W R P K b wa g → Calls Try.prog 20 #[.pointer (some ⟨R, 0, none⟩), .int .u32 addr, .int .i64 k, .int .u32 x] W fun e w' => e = .returned (.tuple #[.bool (wa p), .int .i64 0]) ∧ IsRam w' R P K (bput b a k (byteAt x)) (wHit wa p) (gHit wa g p) ∧ Bar P W w') := fun W hW => by
    have := store_yes R P K a k addr x b wa g m W hK hW hg (by omega) (by omega) hs ho hh x0 x1
    rwa [hp] at this
  have HAS : Hid (∀ (W : World) (s : Option Addr) (c : Nat), Calls Try.prog 25 #[.slice s (64 * K) c, .int .u32 addr, .int .i64 k] W fun e w' => e = .returned (.int .i64 0) ∧ w' = W) := fun W s c => by
    have := rask10_any K s c addr k W hK a0 a1
    rwa [hz] at this
  have HRS : Hid (∀ (W : World) (B1 B2 B3 c1 c2 c3 : Nat), 64 * K ≤ c1 → RowB W B1 (64 * K) b → RowW W B2 K wa → RowG W B3 K g → Calls Try.prog 27 #[.agg #[.slice (some ⟨B1, 0, none⟩) (64 * K) c1, .slice (some ⟨B2, 0, none⟩) K c2, .slice (some ⟨B3, 0, none⟩) K c3], .int .u32 addr, .int .i64 k, .int .u32 x] W fun e w' => ∃ v, e = .returned (.tuple #[v, .bool (wa p)]) ∧ (∀ P, P < W.heap.size → RefV w' P v K (bput b a k (byteAt x)) (wHit wa p) (gHit wa g p)) ∧ Below W.heap.size W w') := fun W B1 B2 B3 c1 c2 c3 q0 q1 q2 q3 =>
    rstore10_any K a k p addr x B1 B2 B3 c1 c2 c3 b wa g m W hK q0 q1 q2 q3 hg (by omega) (by omega) hk4.1 hk4.2 (by omega) hp x0 x1
  have HBD' : Hid (BdB K (bput b a k (byteAt x))) := hbd.put a k (fun i _ => byteAt_bd x i)
  have HG' : Hid (BdG K (gHit wa g p) (m + 1)) := hg.hit wa p
  clear hz hs ho hh h3 ha hp hk4
  generalize hn : (k : Int) = n at *
  clear hn
  obtain ⟨B1, B2, B3, c1, c2, c3, rfl, hc, hp, q1, q2, q3⟩ := hr
  have hr : RefV w P (.agg #[.slice (some ⟨B1, 0, none⟩) (64 * K) c1, .slice (some ⟨B2, 0, none⟩) K c2, .slice (some ⟨B3, 0, none⟩) K c3]) K b wa g := ⟨B1, B2, B3, c1, c2, c3, rfl, hc, hp, q1, q2, q3⟩
  obtain ⟨l1, l2⟩ := hi.lt
  obtain ⟨hS, hB0, hsz⟩ := step_start w (.slice (some ⟨B1, 0, none⟩) (64 * K) c1) (.slice (some ⟨B2, 0, none⟩) K c2) (.slice (some ⟨B3, 0, none⟩) K c3) (.int .i64 2) (.int .u32 addr) (.int .i64 n) (.int .u32 x) (.slice sv len cap)
  obtain ⟨W0, hW0⟩ : ∃ W0, W0 = (((w.alloc (.cells #[.slice (some ⟨B1, 0, none⟩) (64 * K) c1, .slice (some ⟨B2, 0, none⟩) K c2, .slice (some ⟨B3, 0, none⟩) K c3] 36)).alloc (.cells #[.int .i64 2, .int .u32 addr, .int .i64 n, .int .u32 x, .slice sv len cap] 42)).alloc (.cells #[.slice none 0 0, .slice none 0 0, .slice none 0 0] 36)) := ⟨_, rfl⟩
  rw [← hW0] at hS hB0 hsz
  have HW0 := Lib.hid hW0
  have HI : Hid (IsRam W0 R P K b wa g) := hi.on hB0
  have HR : Hid (RefW W0 P (w.heap.size + 1 + 1) (.agg #[.slice (some ⟨B1, 0, none⟩) (64 * K) c1, .slice (some ⟨B2, 0, none⟩) K c2, .slice (some ⟨B3, 0, none⟩) K c3]) K b wa g) := (hr.two hK1 (C := w.heap.size + 1 + 1) (by omega)).on hB0
  have HS := Lib.hid hS
  have HST : Hid (StepS w R P K (.slice (some ⟨B1, 0, none⟩) (64 * K) c1) (.slice (some ⟨B2, 0, none⟩) K c2) (.slice (some ⟨B3, 0, none⟩) K c3) (.int .i64 2) (.int .u32 addr) (.int .i64 n) (.int .u32 x) (.slice sv len cap) (.agg #[.slice (some ⟨B1, 0, none⟩) (64 * K) c1, .slice (some ⟨B2, 0, none⟩) K c2, .slice (some ⟨B3, 0, none⟩) K c3]) b wa g W0) := ⟨Bar.of P hB0, ⟨hS.1, hS.2.1⟩, HI.out, HR.out⟩
  have HB0 := Lib.hid hB0
  have HSZ := Lib.hid hsz
  have HL : Hid (R < w.heap.size ∧ P < w.heap.size) := ⟨l1, l2⟩
  have HCC := Lib.hid hc
  have HQ1 : Hid (RowB W0 B1 (64 * K) b) := q1.on hB0
  have HQ2 : Hid (RowW W0 B2 K wa) := q2.on hB0
  have HQ3 : Hid (RowG W0 B3 K g) := q3.on hB0
  have HBD := Lib.hid hbd
  have HG := Lib.hid hg
  clear hi hr hc hp q1 q2 q3 hB0 hsz hS hW0 l1 l2 hbd hg
  generalize bput b a k (byteAt x) = b' at *
  generalize wHit wa p = wa' at *
  generalize gHit wa g p = g' at *
  generalize wa p = y at *
  go_enter Try.func14, Try.ntmps14
  go_wp2_with fail
  rw [← HW0.out]
  refine (HLD.out _ HI.out).mono ?_
  rintro e W1 ⟨rfl, hi1, hbar⟩
  have HI1 := Lib.hid hi1
  have HR1 := Lib.hid (HR.out.barP hbar)
  have HS1 := Lib.hid (HS.out.bar hbar HL.out.2)
  have HB1 : Hid (Bar P w W1) := (Bar.of P HB0.out).trans hbar
  obtain ⟨E1, E2, E3, f1, f2, f3, hv, hcc, hpp, q1, q2, q3⟩ := HR.out.1
  simp only [Value.agg.injEq, Array.mk.injEq, List.cons.injEq, Value.slice.injEq, Option.some.injEq, Addr.mk.injEq, and_true, true_and] at hv
  obtain ⟨⟨rfl, rfl⟩, ⟨rfl, rfl⟩, rfl, rfl⟩ := hv
  have HQ1' : Hid (RowB W1 B1 (64 * K) b) := q1.bar hbar hpp.1
  have HQ2' : Hid (RowW W1 B2 K wa) := q2.bar hbar hpp.2.1
  have HQ3' : Hid (RowG W1 B3 K g) := q3.bar hbar hpp.2.2
  have HSZ1 : Hid (w.heap.size + 1 + 1 < W1.heap.size) := by have := hbar.size; have := HSZ.out; show _ < _; omega
  clear hi1 hbar hcc hpp q1 q2 q3
  obtain ⟨⟨b0, b1, b2⟩, ⟨s0, s1, s2, s3, s4⟩, ⟨r0, r1, r2⟩, ⟨z0, z1, z2⟩⟩ : ((W1.cell? ⟨w.heap.size, 0, none⟩ = some (.slice (some ⟨B1, 0, none⟩) (64 * K) c1) ∧ W1.cell? ⟨w.heap.size, 1, none⟩ = some (.slice (some ⟨B2, 0, none⟩) K c2) ∧ W1.cell? ⟨w.heap.size, 2, none⟩ = some (.slice (some ⟨B3, 0, none⟩) K c3)) ∧ (W1.cell? ⟨w.heap.size + 1, 0, none⟩ = some (.int .i64 2) ∧ W1.cell? ⟨w.heap.size + 1, 1, none⟩ = some (.int .u32 addr) ∧ W1.cell? ⟨w.heap.size + 1, 2, none⟩ = some (.int .i64 n) ∧ W1.cell? ⟨w.heap.size + 1, 3, none⟩ = some (.int .u32 x) ∧ W1.cell? ⟨w.heap.size + 1, 4, none⟩ = some (.slice sv len cap)) ∧ (W1.cell? ⟨w.heap.size + 1 + 1, 0, none⟩ = some (.slice none 0 0) ∧ W1.cell? ⟨w.heap.size + 1 + 1, 1, none⟩ = some (.slice none 0 0) ∧ W1.cell? ⟨w.heap.size + 1 + 1, 2, none⟩ = some (.slice none 0 0)) ∧ (W1.frozen? ⟨w.heap.size + 1 + 1, 0, none⟩ = false ∧ W1.frozen? ⟨w.heap.size + 1 + 1, 1, none⟩ = false ∧ W1.frozen? ⟨w.heap.size + 1 + 1, 2, none⟩ = false)) := ⟨HS1.out.1.cells, HS1.out.2.1.cells, HS1.out.2.2.cells, HS1.out.2.2.free⟩
  go_wp2_with fail
  refine (HAS.out _ _ _).mono ?_
  rintro e w' ⟨rfl, hw⟩; have hw := hw.symm; subst hw
  go_wp2_with fail
  refine (HRS.out _ _ _ _ _ _ _ HCC.out.1 HQ1'.out HQ2'.out HQ3'.out).mono ?_
  rintro e W2 ⟨v2, rfl, hv2, hb2⟩
  have hr2 : RefW W2 P (w.heap.size + 1 + 1) v2 K b' wa' g' := ⟨hv2 P (by have := HSZ1.out; have := HL.out; omega), hv2 _ HSZ1.out⟩
  obtain ⟨D1, D2, D3, d1, d2, d3, rfl, _⟩ := hr2.1
  have HST2 : Hid (StepS w R P K (.slice (some ⟨B1, 0, none⟩) (64 * K) c1) (.slice (some ⟨B2, 0, none⟩) K c2) (.slice (some ⟨B3, 0, none⟩) K c3) (.int .i64 2) (.int .u32 addr) (.int .i64 n) (.int .u32 x) (.slice sv len cap) (.agg #[.slice (some ⟨D1, 0, none⟩) (64 * K) d1, .slice (some ⟨D2, 0, none⟩) K d2, .slice (some ⟨D3, 0, none⟩) K d3]) b' wa' g' (W2.alloc (.cells #[.slice (some ⟨D1, 0, none⟩) (64 * K) d1, .slice (some ⟨D2, 0, none⟩) K d2, .slice (some ⟨D3, 0, none⟩) K d3] 36))) :=
    StepS.on ⟨HB1.out.trans (Bar.of P hb2), ⟨(HS1.out.on hb2).1, (HS1.out.on hb2).2.1⟩, HI1.out.on hb2, hr2⟩ ((Below.refl _ _).alloc (Nat.le_refl _) _)
  obtain ⟨⟨t0, t1, t2⟩, u0, u1, u2⟩ := three_cells ((HS1.out.on (hb2.trans ((Below.refl _ W2).alloc hb2.size (.cells #[.slice (some ⟨D1, 0, none⟩) (64 * K) d1, .slice (some ⟨D2, 0, none⟩) K d2, .slice (some ⟨D3, 0, none⟩) K d3] 36)))).2.2)
  clear hv2 hb2 hr2 r0 r1 r2 z0 z1 z2 b0 b1 b2 s0 s1 s2 s3 s4
  go_wp2
  refine bodyPost_ret (v := .tuple #[.agg #[.slice (some ⟨D1, 0, none⟩) (64 * K) d1, .slice (some ⟨D2, 0, none⟩) K d2, .slice (some ⟨D3, 0, none⟩) K d3], .bool true]) (by simp [results, Try.results14, go_sem, t0, t1, t2]) rfl ⟨_, rfl, (StepS.store HST2.out HL.out _ _ _).out HBD'.out HG'.out⟩
end Go.Proofs.Ytkgamoacjkmhkaa
