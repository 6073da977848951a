/- Layer 10: one step, done by both: bytes filled in. -/
import Derived.Test.YtkgamoacjkmhkaaRamStepC
import Derived.Test.YtkgamoacjkmhkaaEach
namespace Go.Proofs.Ytkgamoacjkmhkaa
open Go.RowKit
set_option linter.unusedVariables false
set_option linter.unusedSimpArgs false

set_option maxRecDepth 100000 in
set_option maxHeartbeats 4000000 in
theorem step4_yes (R P K : Nat) (b : Nat → Int) (wa : Nat → Bool) (g : Nat → Int) (m : Int) (v : Value) (addr n x : Int) (sv : Option Addr) (len cap : Nat) (w : World) (hK1 : 1 ≤ K) (hK : K ≤ 1024) (hi : IsRam w R P K b wa g) (hr : RefV w P v K b wa g) (hbd : BdB K b) (hg : BdG K g m) (hm : m ≤ 1000) (a0 : 0 ≤ addr) (a1 : addr < 4294967296) (x0 : 0 ≤ x) (x1 : x < 4294967296) (bb bo a : Nat) (f : Nat → Int) (hsv : sv = some ⟨bb, bo, none⟩) (hl : 1 ≤ len) (hlc : len ≤ cap) (ha : addr = 2147483648 + (a : Int)) (hfit : a + len ≤ 64 * K) (hne : bb ≠ P) (hf : ∀ i, i < len → 0 ≤ f i ∧ f i < 256) (hsrc : ∀ i, i < len → w.cell? ⟨bb, bo + i, none⟩ = some (.int .u8 (f i))) :
    Calls Try.prog 14 #[.pointer (some ⟨R, 0, none⟩), v, .agg #[.int .i64 4, .int .u32 addr, .int .i64 n, .int .u32 x, .slice sv len cap]] w fun e w' => ∃ v', e = .returned (.tuple #[v', .bool true]) ∧ StepOut w' R P K v' (m + 1) ∧ Bar P w w' := by
  subst hsv
  have HLD : Hid (∀ W : World, IsRam W R P K b wa g → (∀ i, i < len → W.cell? ⟨bb, bo + i, none⟩ = some (.int .u8 (f i))) → Calls Try.prog 21 #[.pointer (some ⟨R, 0, none⟩), .int .u32 addr, .slice (some ⟨bb, bo, none⟩) len cap] W fun e w' => e = .returned (.int .i64 0) ∧ IsRam w' R P K (bput b a len f) wa g ∧ Bar P W w') := fun W hW hs => fill_yes R P K a addr bb bo len cap f b wa g W hK hW ha hl hlc hfit hne hs
  have HAS : Hid (∀ (W : World) (s : Option Addr) (c : Nat), Calls Try.prog 16 #[.slice s (64 * K) c, .int .u32 addr, .int .i64 len] W fun e w' => e = .returned (.bool true) ∧ w' = W) := fun W s c => by
    have := rhas10_any K s c addr len W hK a0 a1
    rwa [hasB_t (by omega)] at this
  have HPUT : Hid (∀ (W : World) (B c : Nat), RowB W B (64 * K) b → (∀ i, i < len → W.cell? ⟨bb, bo + i, none⟩ = some (.int .u8 (f i))) → 64 * K ≤ c → Calls Try.prog 28 #[.slice (some ⟨B, 0, none⟩) (64 * K) c, .int .u32 addr, .slice (some ⟨bb, bo, none⟩) len cap] W fun e w' => ∃ B' c', e = .returned (.slice (some ⟨B', 0, none⟩) (64 * K) c') ∧ (64 * K ≤ c' ∧ W.heap.size ≤ B' ∧ RowB w' B' (64 * K) (bput b a len f)) ∧ Below W.heap.size W w') := fun W B c h1 h2 h3 => rput10_any K a addr B c bb bo len cap b f W hK h1 ha hl hfit h3 h2
  have HBD' : Hid (BdB K (bput b a len f)) := hbd.put a len hf
  have HNE := Lib.hid hne
  have HSRC := Lib.hid hsrc
  have hl2 : len ≤ 65536 := by omega
  clear hlc ha hfit hne hf hsrc
  obtain ⟨B1, B2, B3, c1, c2, c3, rfl, hc, hp, q1, q2, q3⟩ := hr
  have hr : RefV w P (.agg #[.slice (some ⟨B1, 0, none⟩) (64 * K) c1, .slice (some ⟨B2, 0, none⟩) K c2, .slice (some ⟨B3, 0, none⟩) K c3]) K b wa g := ⟨B1, B2, B3, c1, c2, c3, rfl, hc, hp, q1, q2, q3⟩
  obtain ⟨l1, l2⟩ := hi.lt
  obtain ⟨hS, hB0, hsz⟩ := step_start w (.slice (some ⟨B1, 0, none⟩) (64 * K) c1) (.slice (some ⟨B2, 0, none⟩) K c2) (.slice (some ⟨B3, 0, none⟩) K c3) (.int .i64 4) (.int .u32 addr) (.int .i64 n) (.int .u32 x) (.slice (some ⟨bb, bo, none⟩) len cap)
  obtain ⟨W0, hW0⟩ : ∃ W0, W0 = (((w.alloc (.cells #[.slice (some ⟨B1, 0, none⟩) (64 * K) c1, .slice (some ⟨B2, 0, none⟩) K c2, .slice (some ⟨B3, 0, none⟩) K c3] 36)).alloc (.cells #[.int .i64 4, .int .u32 addr, .int .i64 n, .int .u32 x, .slice (some ⟨bb, bo, none⟩) len cap] 42)).alloc (.cells #[.slice none 0 0, .slice none 0 0, .slice none 0 0] 36)) := ⟨_, rfl⟩
  rw [← hW0] at hS hB0 hsz
  have HW0 := Lib.hid hW0
  have HI : Hid (IsRam W0 R P K b wa g) := hi.on hB0
  have HR : Hid (RefW W0 P (w.heap.size + 1 + 1) (.agg #[.slice (some ⟨B1, 0, none⟩) (64 * K) c1, .slice (some ⟨B2, 0, none⟩) K c2, .slice (some ⟨B3, 0, none⟩) K c3]) K b wa g) := (hr.two hK1 (C := w.heap.size + 1 + 1) (by omega)).on hB0
  have HS := Lib.hid hS
  have HST : Hid (StepS w R P K (.slice (some ⟨B1, 0, none⟩) (64 * K) c1) (.slice (some ⟨B2, 0, none⟩) K c2) (.slice (some ⟨B3, 0, none⟩) K c3) (.int .i64 4) (.int .u32 addr) (.int .i64 n) (.int .u32 x) (.slice (some ⟨bb, bo, none⟩) len cap) (.agg #[.slice (some ⟨B1, 0, none⟩) (64 * K) c1, .slice (some ⟨B2, 0, none⟩) K c2, .slice (some ⟨B3, 0, none⟩) K c3]) b wa g W0) := ⟨Bar.of P hB0, ⟨hS.1, hS.2.1⟩, HI.out, HR.out⟩
  have HB0 := Lib.hid hB0
  have HSZ := Lib.hid hsz
  have HL : Hid (R < w.heap.size ∧ P < w.heap.size) := ⟨l1, l2⟩
  have HCC := Lib.hid hc
  have HQ1 : Hid (RowB W0 B1 (64 * K) b) := q1.on hB0
  have HQ2 : Hid (RowW W0 B2 K wa) := q2.on hB0
  have HQ3 : Hid (RowG W0 B3 K g) := q3.on hB0
  have HBD := Lib.hid hbd
  have HG := Lib.hid hg
  clear hi hr hc hp q1 q2 q3 hB0 hsz hS hW0 l1 l2 hbd hg
  have HSR0 : Hid (∀ i, i < len → W0.cell? ⟨bb, bo + i, none⟩ = some (.int .u8 (f i))) := fun i hi => (Bar.of P HB0.out).cell HNE.out (HSRC.out i hi)
  generalize bput b a len f = b' at *
  go_enter Try.func14, Try.ntmps14
  go_wp2_with fail
  rw [← HW0.out]
  refine (HLD.out _ HI.out HSR0.out).mono ?_
  rintro e W1 ⟨rfl, hi1, hbar⟩
  have HI1 := Lib.hid hi1
  have HR1 := Lib.hid (HR.out.barP hbar)
  have HS1 := Lib.hid (HS.out.bar hbar HL.out.2)
  have HB1 : Hid (Bar P w W1) := (Bar.of P HB0.out).trans hbar
  have HSR : Hid (∀ i, i < len → W1.cell? ⟨bb, bo + i, none⟩ = some (.int .u8 (f i))) := fun i hi => hbar.cell HNE.out (HSR0.out i hi)
  obtain ⟨E1, E2, E3, f1, f2, f3, hv, hcc, hpp, q1, q2, q3⟩ := HR.out.1
  simp only [Value.agg.injEq, Array.mk.injEq, List.cons.injEq, Value.slice.injEq, Option.some.injEq, Addr.mk.injEq, and_true, true_and] at hv
  obtain ⟨⟨rfl, rfl⟩, ⟨rfl, rfl⟩, rfl, rfl⟩ := hv
  obtain ⟨F1, F2, F3, h1, h2, h3, hv, _, hpC, _, _, _⟩ := HR.out.2
  simp only [Value.agg.injEq, Array.mk.injEq, List.cons.injEq, Value.slice.injEq, Option.some.injEq, Addr.mk.injEq, and_true, true_and] at hv
  obtain ⟨⟨rfl, rfl⟩, ⟨rfl, rfl⟩, rfl, rfl⟩ := hv
  have HPC : Hid (B2 ≠ w.heap.size + 1 + 1 ∧ B3 ≠ w.heap.size + 1 + 1 ∧ B2 ≠ P ∧ B3 ≠ P) := ⟨hpC.2.1, hpC.2.2, hpp.2.1, hpp.2.2⟩
  have HQ1' : Hid (RowB W1 B1 (64 * K) b) := q1.bar hbar hpp.1
  have HQ2' : Hid (RowW W1 B2 K wa) := q2.bar hbar hpp.2.1
  have HQ3' : Hid (RowG W1 B3 K g) := q3.bar hbar hpp.2.2
  have HSZ1 : Hid (w.heap.size + 1 + 1 < W1.heap.size) := by have := hbar.size; have := HSZ.out; show _ < _; omega
  have HST1 : Hid (StepT w R P K (.slice (some ⟨B1, 0, none⟩) (64 * K) c1) (.slice (some ⟨B2, 0, none⟩) K c2) (.slice (some ⟨B3, 0, none⟩) K c3) (.int .i64 4) (.int .u32 addr) (.int .i64 n) (.int .u32 x) (.slice (some ⟨bb, bo, none⟩) len cap) b' wa g W1) := ⟨HB1.out, ⟨HS1.out.1, HS1.out.2.1⟩, HI1.out⟩
  clear hi1 hbar hcc hpp q1 q2 q3 hpC
  obtain ⟨⟨b0, b1, b2⟩, ⟨s0, s1, s2, s3, s4⟩, ⟨r0, r1, r2⟩, ⟨z0, z1, z2⟩⟩ : ((W1.cell? ⟨w.heap.size, 0, none⟩ = some (.slice (some ⟨B1, 0, none⟩) (64 * K) c1) ∧ W1.cell? ⟨w.heap.size, 1, none⟩ = some (.slice (some ⟨B2, 0, none⟩) K c2) ∧ W1.cell? ⟨w.heap.size, 2, none⟩ = some (.slice (some ⟨B3, 0, none⟩) K c3)) ∧ (W1.cell? ⟨w.heap.size + 1, 0, none⟩ = some (.int .i64 4) ∧ W1.cell? ⟨w.heap.size + 1, 1, none⟩ = some (.int .u32 addr) ∧ W1.cell? ⟨w.heap.size + 1, 2, none⟩ = some (.int .i64 n) ∧ W1.cell? ⟨w.heap.size + 1, 3, none⟩ = some (.int .u32 x) ∧ W1.cell? ⟨w.heap.size + 1, 4, none⟩ = some (.slice (some ⟨bb, bo, none⟩) len cap)) ∧ (W1.cell? ⟨w.heap.size + 1 + 1, 0, none⟩ = some (.slice none 0 0) ∧ W1.cell? ⟨w.heap.size + 1 + 1, 1, none⟩ = some (.slice none 0 0) ∧ W1.cell? ⟨w.heap.size + 1 + 1, 2, none⟩ = some (.slice none 0 0)) ∧ (W1.frozen? ⟨w.heap.size + 1 + 1, 0, none⟩ = false ∧ W1.frozen? ⟨w.heap.size + 1 + 1, 1, none⟩ = false ∧ W1.frozen? ⟨w.heap.size + 1 + 1, 2, none⟩ = false)) := ⟨HS1.out.1.cells, HS1.out.2.1.cells, HS1.out.2.2.cells, HS1.out.2.2.free⟩
  go_wp2_with fail
  refine (HAS.out _ _ _).mono ?_
  rintro e w' ⟨rfl, hw⟩; have hw := hw.symm; subst hw
  go_wp2_with fail
  refine wp_region_held_drew (S := StepT w R P K (.slice (some ⟨B1, 0, none⟩) (64 * K) c1) (.slice (some ⟨B2, 0, none⟩) K c2) (.slice (some ⟨B3, 0, none⟩) K c3) (.int .i64 4) (.int .u32 addr) (.int .i64 n) (.int .u32 x) (.slice (some ⟨bb, bo, none⟩) len cap) b' wa g) (by kernel_rfl) (HST1.out.on ((Below.refl _ _).drew)) (fun hHeld => ?_)
  refine wpAnyH_take (i := 0) (oi := ?o0) (v := ?v0) ?ho0 (by kernel_rfl) (by kernel_rfl) (by kernel_rfl) ?q0 ?y0 (by assumption) ?rest0
  case ho0 => (simp only [List.getElem?_toArray, List.getElem?_cons_succ, List.getElem?_cons_zero]; rfl)
  case q0 => exact fun _ _ _ h => h
  case y0 => (refine Or.inl ⟨by rfl, ?_⟩; intro w hSw; (try dsimp only at hSw); go_simp; try with_reducible rfl)
  try simp only [Act.put, List.setIfInBounds_toArray, List.set_cons_zero, List.set_cons_succ]
  refine wpAnyH_take (i := 1) (oi := ?o1) (v := ?v1) ?ho1 (by kernel_rfl) (by kernel_rfl) (by kernel_rfl) ?q1 ?y1 (by assumption) ?rest1
  case ho1 => (simp only [List.getElem?_toArray, List.getElem?_cons_succ, List.getElem?_cons_zero]; rfl)
  case q1 => exact fun _ _ _ h => h
  case y1 => (refine Or.inl ⟨by rfl, ?_⟩; intro w hSw; (try dsimp only at hSw); obtain ⟨qa, qb, qc⟩ := hSw.2.1.1.cells; go_simp; try with_reducible rfl)
  try simp only [Act.put, List.setIfInBounds_toArray, List.set_cons_zero, List.set_cons_succ]
  refine wpAnyH_take (i := 2) (oi := ?o2) (v := ?v2) ?ho2 (by kernel_rfl) (by kernel_rfl) (by kernel_rfl) ?q2 ?y2 (by assumption) ?rest2
  case ho2 => (simp only [List.getElem?_toArray, List.getElem?_cons_succ, List.getElem?_cons_zero]; rfl)
  case q2 => exact fun _ _ _ h => h
  case y2 => (refine Or.inl ⟨by rfl, ?_⟩; intro w hSw; (try dsimp only at hSw); go_simp; try with_reducible rfl)
  try simp only [Act.put, List.setIfInBounds_toArray, List.set_cons_zero, List.set_cons_succ]
  refine wpAnyH_take (i := 3) (oi := ?o3) (v := ?v3) ?ho3 (by kernel_rfl) (by kernel_rfl) (by kernel_rfl) ?q3 ?y3 (by assumption) ?rest3
  case ho3 => (simp only [List.getElem?_toArray, List.getElem?_cons_succ, List.getElem?_cons_zero]; rfl)
  case q3 => exact fun _ _ _ h => h
  case y3 => (refine Or.inl ⟨by rfl, ?_⟩; intro w hSw; (try dsimp only at hSw); obtain ⟨_, qd, qe, _, qf⟩ := hSw.2.1.2.cells; go_simp; try with_reducible rfl)
  try simp only [Act.put, List.setIfInBounds_toArray, List.set_cons_zero, List.set_cons_succ]
  refine wpAnyH_take (i := 4) (oi := ?o4) (v := ?v4) ?ho4 (by kernel_rfl) (by kernel_rfl) (by kernel_rfl) ?q4 ?y4 (by assumption) ?rest4
  case ho4 => (simp only [List.getElem?_toArray, List.getElem?_cons_succ, List.getElem?_cons_zero]; rfl)
  case q4 => exact fun _ _ _ h => h
  case y4 => (refine Or.inl ⟨by rfl, ?_⟩; intro w hSw; (try dsimp only at hSw); go_simp; try with_reducible rfl)
  try simp only [Act.put, List.setIfInBounds_toArray, List.set_cons_zero, List.set_cons_succ]
  refine wpAnyH_take (i := 5) (oi := ?o5) (v := ?v5) ?ho5 (by kernel_rfl) (by kernel_rfl) (by kernel_rfl) ?q5 ?y5 (by assumption) ?rest5
  case ho5 => (simp only [List.getElem?_toArray, List.getElem?_cons_succ, List.getElem?_cons_zero]; rfl)
  case q5 => exact fun _ _ _ h => h
  case y5 => (refine Or.inl ⟨by rfl, ?_⟩; intro w hSw; (try dsimp only at hSw); obtain ⟨_, qd, qe, _, qf⟩ := hSw.2.1.2.cells; go_simp; try with_reducible rfl)
  try simp only [Act.put, List.setIfInBounds_toArray, List.set_cons_zero, List.set_cons_succ]
  refine wpAnyH_take (i := 7) (oi := ?o7) (v := ?v7) ?ho7 (by kernel_rfl) (by kernel_rfl) (by kernel_rfl) ?q7 ?y7 (by assumption) ?rest7
  case ho7 => (simp only [List.getElem?_toArray, List.getElem?_cons_succ, List.getElem?_cons_zero]; rfl)
  case q7 => exact fun _ _ _ h => h
  case y7 => (refine Or.inl ⟨by rfl, ?_⟩; intro w hSw; (try dsimp only at hSw); go_simp; try with_reducible rfl)
  try simp only [Act.put, List.setIfInBounds_toArray, List.set_cons_zero, List.set_cons_succ]
  refine wpAnyH_take (i := 8) (oi := ?o8) (v := ?v8) ?ho8 (by kernel_rfl) (by kernel_rfl) (by kernel_rfl) ?q8 ?y8 (by assumption) ?rest8
  case ho8 => (simp only [List.getElem?_toArray, List.getElem?_cons_succ, List.getElem?_cons_zero]; rfl)
  case q8 => exact fun _ _ _ h => h
  case y8 => (refine Or.inl ⟨by rfl, ?_⟩; intro w hSw; (try dsimp only at hSw); obtain ⟨qa, qb, qc⟩ := hSw.2.1.1.cells; go_simp; try with_reducible rfl)
  try simp only [Act.put, List.setIfInBounds_toArray, List.set_cons_zero, List.set_cons_succ]
  refine wpAnyH_take (i := 9) (oi := ?o9) (v := ?v9) ?ho9 (by kernel_rfl) (by kernel_rfl) (by kernel_rfl) ?q9 ?y9 (by assumption) ?rest9
  case ho9 => (simp only [List.getElem?_toArray, List.getElem?_cons_succ, List.getElem?_cons_zero]; rfl)
  case q9 => exact fun _ _ _ h => h
  case y9 => (refine Or.inl ⟨by rfl, ?_⟩; intro w hSw; (try dsimp only at hSw); go_simp; try with_reducible rfl)
  try simp only [Act.put, List.setIfInBounds_toArray, List.set_cons_zero, List.set_cons_succ]
  refine wpAnyH_take (i := 10) (oi := ?o10) (v := ?v10) ?ho10 (by kernel_rfl) (by kernel_rfl) (by kernel_rfl) ?q10 ?y10 (by assumption) ?rest10
  case ho10 => (simp only [List.getElem?_toArray, List.getElem?_cons_succ, List.getElem?_cons_zero]; rfl)
  case q10 => exact fun _ _ _ h => h
  case y10 => (refine Or.inl ⟨by rfl, ?_⟩; intro w hSw; (try dsimp only at hSw); obtain ⟨qa, qb, qc⟩ := hSw.2.1.1.cells; go_simp; try with_reducible rfl)
  try simp only [Act.put, List.setIfInBounds_toArray, List.set_cons_zero, List.set_cons_succ]
  refine wpAnyH_take (i := 12) (oi := ?o12) (v := ?v12) ?ho12 (by kernel_rfl) (by kernel_rfl) (by kernel_rfl) ?q12 ?y12 (by assumption) ?rest12
  case ho12 => (simp only [List.getElem?_toArray, List.getElem?_cons_succ, List.getElem?_cons_zero]; rfl)
  case q12 => exact fun _ _ _ h => h
  case y12 => (refine Or.inl ⟨by rfl, ?_⟩; intro w hSw; (try dsimp only at hSw); go_simp; try with_reducible rfl)
  try simp only [Act.put, List.setIfInBounds_toArray, List.set_cons_zero, List.set_cons_succ]
  refine wpAnyH_take (i := 13) (oi := ?o13) (v := ?v13) ?ho13 (by kernel_rfl) (by kernel_rfl) (by kernel_rfl) ?q13 ?y13 (by assumption) ?rest13
  case ho13 => (simp only [List.getElem?_toArray, List.getElem?_cons_succ, List.getElem?_cons_zero]; rfl)
  case q13 => exact fun _ _ _ h => h
  case y13 => (refine Or.inl ⟨by rfl, ?_⟩; intro w hSw; (try dsimp only at hSw); go_simp; try with_reducible rfl)
  try simp only [Act.put, List.setIfInBounds_toArray, List.set_cons_zero, List.set_cons_succ]
  refine wpAnyH_ready (rs := [6]) (by kernel_rfl) (by simp) (AllReadyH.cons rfl (fun Kx hKx => ?_) AllReadyH.nil)
  go_simp
  refine (HPUT.out _ _ _ ?_ ?_ HCC.out.1).mono ?_
  exact HQ1'.out
  exact HSR.out
  rintro e v6 ⟨B', c', rfl, ⟨hc1, hc2, hc3⟩, hb'⟩
  have hb6 := hHeld.on hb'
  have HROW := Lib.hid hc3
  have HC1 := Lib.hid hc1
  have HLT : Hid (w.heap.size + 1 + 1 < B') := by have := HSZ1.out; have : W1.heap.size ≤ B' := hc2; show _ < _; omega
  have HQ2'' : Hid (RowW v6 B2 K wa) := HQ2'.out.on (Below.trans ((Below.refl _ _).drew) hb')
  have HQ3'' : Hid (RowG v6 B3 K g) := HQ3'.out.on (Below.trans ((Below.refl _ _).drew) hb')
  have HRES : Hid (v6.heap[w.heap.size + 1 + 1]? = some (.cells #[.slice none 0 0, .slice none 0 0, .slice none 0 0] 36 (0, 0))) := (HS1.out.on (Below.trans ((Below.refl _ _).drew) hb')).2.2
  clear hc1 hc2 hc3 hb'
  try go_wp2_with fail
  refine hKx.out _ _ hb6 (fun hHeld => ?_)
  clear hKx Kx
  try simp only [Act.put, List.setIfInBounds_toArray, List.set_cons_zero, List.set_cons_succ]
  refine wpAnyH_take (i := 11) (oi := ?o11) (v := ?v11) ?ho11 (by kernel_rfl) (by kernel_rfl) (by kernel_rfl) ?q11 ?y11 (by assumption) ?rest11
  case ho11 => (simp only [List.getElem?_toArray, List.getElem?_cons_succ, List.getElem?_cons_zero]; rfl)
  case q11 => exact fun _ _ _ h => h
  case y11 => (refine Or.inl ⟨by rfl, ?_⟩; intro w hSw; (try dsimp only at hSw); go_simp; try with_reducible rfl)
  try simp only [Act.put, List.setIfInBounds_toArray, List.set_cons_zero, List.set_cons_succ]
  refine wpAnyH_ready (rs := [14]) (by kernel_rfl) (by simp) (AllReadyH.cons rfl (fun Kx hKx => ?_) AllReadyH.nil)
  obtain ⟨⟨t0, t1, t2⟩, u0, u1, u2⟩ := three_cells HRES.out
  have HH := Lib.hid hHeld
  clear hHeld
  go_simp
  refine hKx.out _ _ (HH.out.store HL.out _ _ _) (fun hHeld => ?_)
  clear hKx Kx
  refine wpAnyH_take (i := 15) (oi := ?o15) (v := ?v15) ?ho15 (by kernel_rfl) (by kernel_rfl) (by kernel_rfl) ?q15 ?y15 (by assumption) ?rest15
  case ho15 => (simp only [List.getElem?_toArray, List.getElem?_cons_succ, List.getElem?_cons_zero]; rfl)
  case q15 => exact fun _ _ _ h => h
  case y15 => (refine Or.inl ⟨by rfl, ?_⟩; intro w hSw; (try dsimp only at hSw); go_simp; try with_reducible rfl)
  try simp only [Act.put, List.setIfInBounds_toArray, List.set_cons_zero, List.set_cons_succ]
  refine wpAnyH_done (by kernel_rfl) ?_ _
  have HF := Lib.hid hHeld
  clear hHeld
  go_wp2
  refine bodyPost_ret (v := .tuple #[.agg #[.slice (some ⟨B', 0, none⟩) (64 * K) c', .slice (some ⟨B2, 0, none⟩) K c2, .slice (some ⟨B3, 0, none⟩) K c3], .bool true]) (by simp [results, Try.results14, go_sem, t0, t1, t2]) rfl ⟨_, rfl, ⟨b', wa, g, HF.out.2.2, ⟨B', B2, B3, c', c2, c3, rfl, ⟨HC1.out, HCC.out.2.1, HCC.out.2.2⟩, ⟨by have := HLT.out; have := HL.out; omega, HPC.out.2.2.1, HPC.out.2.2.2⟩, ?_, ?_, ?_⟩, HBD'.out, HG.out.up (by omega)⟩, HF.out.1⟩
  · exact HROW.out.bar (bar3 _ _ _ _ _) (by have := HLT.out; omega)
  · exact HQ2''.out.bar (bar3 _ _ _ _ _) HPC.out.1
  · exact HQ3''.out.bar (bar3 _ _ _ _ _) HPC.out.2.1
end Go.Proofs.Ytkgamoacjkmhkaa
