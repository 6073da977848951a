/- Layer 10: one step, done by both: a watch. -/
import Derived.Test.YtkgamoacjkmhkaaRamStepC
import Derived.Test.YtkgamoacjkmhkaaEach
namespace Go.Proofs.Ytkgamoacjkmhkaa
open Go.RowKit
set_option linter.unusedVariables false
set_option linter.unusedSimpArgs false

def RU (base K : Nat) (a c : Value) (wa : Nat → Bool) (u : Value) (w : World) : Prop := ∃ y, u = .agg #[a, y, c] ∧ OW base K wa y w
theorem RU.on {base K : Nat} {a c : Value} {wa : Nat → Bool} {u : Value} {w w' : World} (h : RU base K a c wa u w) (hb : Below w.heap.size w w') : RU base K a c wa u w' := by
  obtain ⟨y, h1, h2⟩ := h
  exact ⟨y, h1, h2.on hb⟩
def watchR (base K : Nat) (a c : Value) (wa : Nat → Bool) : Nat → Value → World → Prop
  | 2, u, w => R7 u
  | 5, u, w => OW base K wa u w
  | 8, u, w => RU base K a c wa u w
  | 9, u, w => R16 base u w
  | _, _, _ => True
theorem watchR_on {base K : Nat} {a c : Value} {wa : Nat → Bool} {k : Nat} {u : Value} {w w' : World} (hb : Below w.heap.size w w') (h : watchR base K a c wa k u w) : watchR base K a c wa k u w' := by
  unfold watchR at *
  split at h
  · exact h
  · exact h.on hb
  · exact h.on hb
  · exact h.on hb
  · trivial

set_option maxRecDepth 100000 in
set_option maxHeartbeats 4000000 in
theorem step3_yes (R P K : Nat) (b : Nat → Int) (wa : Nat → Bool) (g : Nat → Int) (m : Int) (v : Value) (addr n x : Int) (sv : Option Addr) (len cap : Nat) (w : World) (hK1 : 1 ≤ K) (hK : K ≤ 1024) (hi : IsRam w R P K b wa g) (hr : RefV w P v K b wa g) (hbd : BdB K b) (hg : BdG K g m) (hm : m ≤ 1000) (a0 : 0 ≤ addr) (a1 : addr < 4294967296) (x0 : 0 ≤ x) (x1 : x < 4294967296) (p : Nat) (hpn : n = (p : Int)) (hpK : p < K) :
    Calls Try.prog 14 #[.pointer (some ⟨R, 0, none⟩), v, .agg #[.int .i64 3, .int .u32 addr, .int .i64 n, .int .u32 x, .slice sv len cap]] w fun e w' => ∃ v', e = .returned (.tuple #[v', .bool true]) ∧ StepOut w' R P K v' (m + 1) ∧ Bar P w w' := by
  subst hpn
  have HLD : Hid (∀ W : World, IsRam W R P K b wa g → Calls Try.prog 22 #[.pointer (some ⟨R, 0, none⟩), .int .i64 p] W fun e w' => e = .returned (.int .i64 0) ∧ IsRam w' R P K b (bset wa p true) g ∧ Bar P W w') := fun W hW => watch_yes R P K p b wa g W hK hW hpK
  have HPK := Lib.hid hpK
  have hi0 : (0 : Int) ≤ (p : Int) := by omega
  have hiK : (p : Int) < K := by omega
  clear hpK
  obtain ⟨B1, B2, B3, c1, c2, c3, rfl, hc, hp, q1, q2, q3⟩ := hr
  have hr : RefV w P (.agg #[.slice (some ⟨B1, 0, none⟩) (64 * K) c1, .slice (some ⟨B2, 0, none⟩) K c2, .slice (some ⟨B3, 0, none⟩) K c3]) K b wa g := ⟨B1, B2, B3, c1, c2, c3, rfl, hc, hp, q1, q2, q3⟩
  obtain ⟨l1, l2⟩ := hi.lt
  obtain ⟨hS, hB0, hsz⟩ := step_start w (.slice (some ⟨B1, 0, none⟩) (64 * K) c1) (.slice (some ⟨B2, 0, none⟩) K c2) (.slice (some ⟨B3, 0, none⟩) K c3) (.int .i64 3) (.int .u32 addr) (.int .i64 p) (.int .u32 x) (.slice sv len cap)
  obtain ⟨W0, hW0⟩ : ∃ W0, W0 = (((w.alloc (.cells #[.slice (some ⟨B1, 0, none⟩) (64 * K) c1, .slice (some ⟨B2, 0, none⟩) K c2, .slice (some ⟨B3, 0, none⟩) K c3] 36)).alloc (.cells #[.int .i64 3, .int .u32 addr, .int .i64 p, .int .u32 x, .slice sv len cap] 42)).alloc (.cells #[.slice none 0 0, .slice none 0 0, .slice none 0 0] 36)) := ⟨_, rfl⟩
  rw [← hW0] at hS hB0 hsz
  have HW0 := Lib.hid hW0
  have HI : Hid (IsRam W0 R P K b wa g) := hi.on hB0
  have HR : Hid (RefW W0 P (w.heap.size + 1 + 1) (.agg #[.slice (some ⟨B1, 0, none⟩) (64 * K) c1, .slice (some ⟨B2, 0, none⟩) K c2, .slice (some ⟨B3, 0, none⟩) K c3]) K b wa g) := (hr.two hK1 (C := w.heap.size + 1 + 1) (by omega)).on hB0
  have HS := Lib.hid hS
  have HST : Hid (StepS w R P K (.slice (some ⟨B1, 0, none⟩) (64 * K) c1) (.slice (some ⟨B2, 0, none⟩) K c2) (.slice (some ⟨B3, 0, none⟩) K c3) (.int .i64 3) (.int .u32 addr) (.int .i64 p) (.int .u32 x) (.slice sv len cap) (.agg #[.slice (some ⟨B1, 0, none⟩) (64 * K) c1, .slice (some ⟨B2, 0, none⟩) K c2, .slice (some ⟨B3, 0, none⟩) K c3]) b wa g W0) := ⟨Bar.of P hB0, ⟨hS.1, hS.2.1⟩, HI.out, HR.out⟩
  have HB0 := Lib.hid hB0
  have HSZ := Lib.hid hsz
  have HL : Hid (R < w.heap.size ∧ P < w.heap.size) := ⟨l1, l2⟩
  have HCC := Lib.hid hc
  have HQ1 : Hid (RowB W0 B1 (64 * K) b) := q1.on hB0
  have HQ2 : Hid (RowW W0 B2 K wa) := q2.on hB0
  have HQ3 : Hid (RowG W0 B3 K g) := q3.on hB0
  have HBD := Lib.hid hbd
  have HG := Lib.hid hg
  clear hi hr hc hp q1 q2 q3 hB0 hsz hS hW0 l1 l2 hbd hg
  obtain ⟨wa', hwa'⟩ : ∃ wa', wa' = bset wa p true := ⟨_, rfl⟩
  have HWA := Lib.hid hwa'
  rw [← hwa'] at HLD
  clear hwa'
  go_enter Try.func14, Try.ntmps14
  go_wp2_with fail
  rw [← HW0.out]
  refine (HLD.out _ HI.out).mono ?_
  rintro e W1 ⟨rfl, hi1, hbar⟩
  have HI1 := Lib.hid hi1
  have HS1 := Lib.hid (HS.out.bar hbar HL.out.2)
  have HB1 : Hid (Bar P w W1) := (Bar.of P HB0.out).trans hbar
  obtain ⟨E1, E2, E3, f1, f2, f3, hv, hcc, hpp, q1, q2, q3⟩ := HR.out.1
  simp only [Value.agg.injEq, Array.mk.injEq, List.cons.injEq, Value.slice.injEq, Option.some.injEq, Addr.mk.injEq, and_true, true_and] at hv
  obtain ⟨⟨rfl, rfl⟩, ⟨rfl, rfl⟩, rfl, rfl⟩ := hv
  obtain ⟨F1, F2, F3, h1, h2, h3, hv, _, hpC, _, _, _⟩ := HR.out.2
  simp only [Value.agg.injEq, Array.mk.injEq, List.cons.injEq, Value.slice.injEq, Option.some.injEq, Addr.mk.injEq, and_true, true_and] at hv
  obtain ⟨⟨rfl, rfl⟩, ⟨rfl, rfl⟩, rfl, rfl⟩ := hv
  have HPC : Hid (B1 ≠ w.heap.size + 1 + 1 ∧ B3 ≠ w.heap.size + 1 + 1 ∧ B1 ≠ P ∧ B3 ≠ P) := ⟨hpC.1, hpC.2.2, hpp.1, hpp.2.2⟩
  have HQ1' : Hid (RowB W1 B1 (64 * K) b) := q1.bar hbar hpp.1
  have HQ2' : Hid (RowW W1 B2 K wa) := q2.bar hbar hpp.2.1
  have HQ3' : Hid (RowG W1 B3 K g) := q3.bar hbar hpp.2.2
  have HSZ1 : Hid (w.heap.size + 1 + 1 < W1.heap.size) := by have := hbar.size; have := HSZ.out; show _ < _; omega
  obtain ⟨N1, hN1⟩ : ∃ N1, W1.heap.size = N1 + 1 := ⟨W1.heap.size - 1, by have := HSZ1.out; omega⟩
  have HN1 := Lib.hid hN1
  have HLT : Hid (B1 < W1.heap.size ∧ B3 < W1.heap.size) := ⟨World.block_lt_of_cell? W1 _ (HQ1'.out 0 (by omega)), World.block_lt_of_cell? W1 _ (HQ3'.out 0 (by omega))⟩
  clear hi1 hbar hcc hpp q1 q2 q3 hpC hN1
  obtain ⟨⟨b0, b1, b2⟩, ⟨s0, s1, s2, s3, s4⟩, ⟨r0, r1, r2⟩, ⟨z0, z1, z2⟩⟩ : ((W1.cell? ⟨w.heap.size, 0, none⟩ = some (.slice (some ⟨B1, 0, none⟩) (64 * K) c1) ∧ W1.cell? ⟨w.heap.size, 1, none⟩ = some (.slice (some ⟨B2, 0, none⟩) K c2) ∧ W1.cell? ⟨w.heap.size, 2, none⟩ = some (.slice (some ⟨B3, 0, none⟩) K c3)) ∧ (W1.cell? ⟨w.heap.size + 1, 0, none⟩ = some (.int .i64 3) ∧ W1.cell? ⟨w.heap.size + 1, 1, none⟩ = some (.int .u32 addr) ∧ W1.cell? ⟨w.heap.size + 1, 2, none⟩ = some (.int .i64 p) ∧ W1.cell? ⟨w.heap.size + 1, 3, none⟩ = some (.int .u32 x) ∧ W1.cell? ⟨w.heap.size + 1, 4, none⟩ = some (.slice sv len cap)) ∧ (W1.cell? ⟨w.heap.size + 1 + 1, 0, none⟩ = some (.slice none 0 0) ∧ W1.cell? ⟨w.heap.size + 1 + 1, 1, none⟩ = some (.slice none 0 0) ∧ W1.cell? ⟨w.heap.size + 1 + 1, 2, none⟩ = some (.slice none 0 0)) ∧ (W1.frozen? ⟨w.heap.size + 1 + 1, 0, none⟩ = false ∧ W1.frozen? ⟨w.heap.size + 1 + 1, 1, none⟩ = false ∧ W1.frozen? ⟨w.heap.size + 1 + 1, 2, none⟩ = false)) := ⟨HS1.out.1.cells, HS1.out.2.1.cells, HS1.out.2.2.cells, HS1.out.2.2.free⟩
  go_wp2_with fail
  refine wp_region_held_drew (S := fun w' => Below W1.heap.size W1 w') (by kernel_rfl) ((Below.refl _ _).drew) (fun hHeld => ?_)
  refine wpAnyH_take (i := 0) (oi := ?o0) (v := ?v0) ?ho0 (by kernel_rfl) (by kernel_rfl) (by kernel_rfl) ?q0 ?y0 (by assumption) ?rest0
  case ho0 => (simp only [List.getElem?_toArray, List.getElem?_cons_succ, List.getElem?_cons_zero]; rfl)
  case q0 => exact fun _ _ _ h => h
  case y0 => (refine Or.inl ⟨by rfl, ?_⟩; intro w hSw; (try dsimp only at hSw); go_simp; try with_reducible rfl)
  try simp only [Act.put, List.setIfInBounds_toArray, List.set_cons_zero, List.set_cons_succ]
  refine wpAnyH_take (i := 1) (oi := ?o1) (v := ?v1) ?ho1 (by kernel_rfl) (by kernel_rfl) (by kernel_rfl) ?q1 ?y1 (by assumption) ?rest1
  case ho1 => (simp only [List.getElem?_toArray, List.getElem?_cons_succ, List.getElem?_cons_zero]; rfl)
  case q1 => exact fun _ _ _ h => h
  case y1 => (refine Or.inl ⟨by rfl, ?_⟩; intro w hSw; (try dsimp only at hSw); obtain ⟨qa, qb, qc⟩ := (HS1.out.on hSw).1.cells; go_simp; try with_reducible rfl)
  try simp only [Act.put, List.setIfInBounds_toArray, List.set_cons_zero, List.set_cons_succ]
  refine wpAnyH_take (i := 3) (oi := ?o3) (v := ?v3) ?ho3 (by kernel_rfl) (by kernel_rfl) (by kernel_rfl) ?q3 ?y3 (by assumption) ?rest3
  case ho3 => (simp only [List.getElem?_toArray, List.getElem?_cons_succ, List.getElem?_cons_zero]; rfl)
  case q3 => exact fun _ _ _ h => h
  case y3 => (refine Or.inl ⟨by rfl, ?_⟩; intro w hSw; (try dsimp only at hSw); go_simp; try with_reducible rfl)
  try simp only [Act.put, List.setIfInBounds_toArray, List.set_cons_zero, List.set_cons_succ]
  refine wpAnyH_take (i := 4) (oi := ?o4) (v := ?v4) ?ho4 (by kernel_rfl) (by kernel_rfl) (by kernel_rfl) ?q4 ?y4 (by assumption) ?rest4
  case ho4 => (simp only [List.getElem?_toArray, List.getElem?_cons_succ, List.getElem?_cons_zero]; rfl)
  case q4 => exact fun _ _ _ h => h
  case y4 => (refine Or.inl ⟨by rfl, ?_⟩; intro w hSw; (try dsimp only at hSw); obtain ⟨qa, qb, qc⟩ := (HS1.out.on hSw).1.cells; go_simp; try with_reducible rfl)
  try simp only [Act.put, List.setIfInBounds_toArray, List.set_cons_zero, List.set_cons_succ]
  refine wpAnyH_take (i := 6) (oi := ?o6) (v := ?v6) ?ho6 (by kernel_rfl) (by kernel_rfl) (by kernel_rfl) ?q6 ?y6 (by assumption) ?rest6
  case ho6 => (simp only [List.getElem?_toArray, List.getElem?_cons_succ, List.getElem?_cons_zero]; rfl)
  case q6 => exact fun _ _ _ h => h
  case y6 => (refine Or.inl ⟨by rfl, ?_⟩; intro w hSw; (try dsimp only at hSw); go_simp; try with_reducible rfl)
  try simp only [Act.put, List.setIfInBounds_toArray, List.set_cons_zero, List.set_cons_succ]
  refine wpAnyH_take (i := 7) (oi := ?o7) (v := ?v7) ?ho7 (by kernel_rfl) (by kernel_rfl) (by kernel_rfl) ?q7 ?y7 (by assumption) ?rest7
  case ho7 => (simp only [List.getElem?_toArray, List.getElem?_cons_succ, List.getElem?_cons_zero]; rfl)
  case q7 => exact fun _ _ _ h => h
  case y7 => (refine Or.inl ⟨by rfl, ?_⟩; intro w hSw; (try dsimp only at hSw); obtain ⟨qa, qb, qc⟩ := (HS1.out.on hSw).1.cells; go_simp; try with_reducible rfl)
  try simp only [Act.put, List.setIfInBounds_toArray, List.set_cons_zero, List.set_cons_succ]
  refine wpAnyH_each (fuel := 1) [2, 5, 8, 9] (watchR N1 K (.slice (some ⟨B1, 0, none⟩) (64 * K) c1) (.slice (some ⟨B3, 0, none⟩) K c3) wa) rfl (by kernel_rfl) (fun w1 hb => Below.trans hHeld (hb.mono hHeld.size)) ?stable17 ?step17 ?next17
  rotate_left 2
  intro vE wE hbE hrE
  simp only [putSel, slotAt, Act.put, if_true, if_pos, List.getElem?_toArray, List.getElem?_cons_succ, List.getElem?_cons_zero, Option.bind_some, List.setIfInBounds_toArray, List.set_cons_zero, List.set_cons_succ, List.foldl_cons, List.foldl_nil]
  have hHeld := Below.trans hHeld (hbE.mono hHeld.size)
  refine wpAnyH_ready (rs := [10]) (by kernel_rfl) (by simp) (AllReadyH.cons rfl (fun Kx hKx => ?_) AllReadyH.nil)
  obtain ⟨y1, e8, hy⟩ : RU N1 K (.slice (some ⟨B1, 0, none⟩) (64 * K) c1) (.slice (some ⟨B3, 0, none⟩) K c3) wa (vE 8) wE := hrE 8 (by simp)
  obtain ⟨B17, e9, hB17, hcells⟩ : R16 N1 (vE 9) wE := hrE 9 (by simp)
  obtain ⟨D2, d2, rfl, hy⟩ := hy
  obtain ⟨⟨f0, f1, f2⟩, z0, z1, z2⟩ := three_cells hcells
  rw [e8, e9]
  have HY := Lib.hid hy
  have HE := Lib.hid hHeld
  have HCE := Lib.hid hcells
  have HB17 := Lib.hid hB17
  clear hrE hy hHeld hbE e8 e9 hcells hB17
  go_simp
  refine hKx.out _ _ (three_set HE.out (by have := HB17.out; have := HN1.out; omega)) (fun hHeld => ?_)
  clear hKx Kx
  refine wpAnyH_done (by kernel_rfl) ?_ _
  have hW5 : (((wE.setCell ⟨B17, 0, none⟩ (.slice (some ⟨B1, 0, none⟩) (64 * K) c1)).setCell ⟨B17, 1, none⟩ (.slice (some ⟨D2, 0, none⟩) K d2)).setCell ⟨B17, 2, none⟩ (.slice (some ⟨B3, 0, none⟩) K c3)).heap[B17]? = some (.cells #[.slice (some ⟨B1, 0, none⟩) (64 * K) c1, .slice (some ⟨D2, 0, none⟩) K d2, .slice (some ⟨B3, 0, none⟩) K c3] 36 (0, 0)) :=
    heap_setCell_at (heap_setCell_at (heap_setCell_at HCE.out))
  have hbar : Bar B17 wE (((wE.setCell ⟨B17, 0, none⟩ (.slice (some ⟨B1, 0, none⟩) (64 * K) c1)).setCell ⟨B17, 1, none⟩ (.slice (some ⟨D2, 0, none⟩) K d2)).setCell ⟨B17, 2, none⟩ (.slice (some ⟨B3, 0, none⟩) K c3)) := bar3 _ _ _ _ _
  have HW5 := Lib.hid hW5
  have HBAR := Lib.hid hbar
  have HH5 := Lib.hid hHeld
  clear hW5 hbar hHeld f0 f1 f2 z0 z1 z2 b0 b1 b2 s0 s1 s2 s3 s4 r0 r1 r2
  generalize (((wE.setCell ⟨B17, 0, none⟩ (.slice (some ⟨B1, 0, none⟩) (64 * K) c1)).setCell ⟨B17, 1, none⟩ (.slice (some ⟨D2, 0, none⟩) K d2)).setCell ⟨B17, 2, none⟩ (.slice (some ⟨B3, 0, none⟩) K c3)) = W5 at *
  have k0 : wE.cell? ⟨B17, 0, none⟩ = some (.slice none 0 0) := (three_cells HCE.out).1.1
  have k2 : wE.cell? ⟨D2, 0, none⟩ = some (.bool (wa 0)) := by rw [HY.out.cellAt 0 (by omega)]; exact rowWL_at (by omega)
  have n2 : D2 ≠ B17 := fun e => by rw [e, k0] at k2; simp at k2
  have l2 : N1 < D2 := (HY.out.lt D2 rfl).1
  have l0 : N1 < B17 := HB17.out
  clear k0 k2
  have HY5 : Hid (W5.ownsRow (N1 + 1) 4 1 (.slice (some ⟨D2, 0, none⟩) K d2) K (rowWL K wa)) := own10_bar HY.out HBAR.out n2
  have R2 : Hid (RowW W5 D2 K wa) := fun i hi => by rw [HY5.out.cellAt i (by omega)]; exact rowWL_at hi
  have S2' : Hid (RowW (W5.setCell ⟨D2, p, none⟩ (.bool true)) D2 K wa') := by rw [HWA.out]; exact R2.out.set HPK.out true
  have HD2 : Hid (K ≤ d2) := own10_cap HY5.out (by omega)
  have HS5 := Lib.hid (HS1.out.on HH5.out)
  have n3 : D2 ≠ w.heap.size + 1 + 1 := by have := HN1.out; have := HSZ1.out; omega
  have n4 : B17 ≠ w.heap.size + 1 + 1 := by have := HN1.out; have := HSZ1.out; omega
  have n5 : D2 ≠ w.heap.size + 1 := by have := HN1.out; have := HSZ1.out; omega
  have HNN : Hid (B1 ≠ D2 ∧ B3 ≠ D2 ∧ P < D2) := by have := HN1.out; have := HSZ1.out; have := HLT.out; have := HL.out; exact ⟨by omega, by omega, by omega⟩
  obtain ⟨⟨t0, t1, t2⟩, -⟩ := three_cells HW5.out
  obtain ⟨⟨r0, r1, r2⟩, v0, v1, v2⟩ := three_cells HS5.out.2.2
  obtain ⟨-, -, s2, -⟩ := HS5.out.2.1.cells
  have cw := R2.out p HPK.out
  have fw : W5.frozen? ⟨D2, p, none⟩ = false := HY5.out.frozenAt p
  have o2 := n2.symm
  have o3 := n3.symm
  have o4 := n4.symm
  have HB5 : Hid (Bar P w W5) := HB1.out.trans (Bar.of P HH5.out)
  have HI5 : Hid (IsRam W5 R P K b wa' g) := HI1.out.on HH5.out
  have HQ15 : Hid (RowB W5 B1 (64 * K) b) := HQ1'.out.on HH5.out
  have HQ35 : Hid (RowG W5 B3 K g) := HQ3'.out.on HH5.out
  have HLL : Hid (D2 > w.heap.size + 1 + 1) := by have := HN1.out; have := HSZ1.out; show _ < _; omega
  clear l0 l2
  go_wp2
  refine bodyPost_ret (v := .tuple #[.agg #[.slice (some ⟨B1, 0, none⟩) (64 * K) c1, .slice (some ⟨D2, 0, none⟩) K d2, .slice (some ⟨B3, 0, none⟩) K c3], .bool true]) (by simp [results, Try.results14, go_sem, r0, r1, r2, n2, n3, n4, o2, o3, o4]) rfl ⟨_, rfl, ⟨b, wa', g, ?_, ⟨B1, D2, B3, c1, d2, c3, rfl, ⟨HCC.out.1, HD2.out, HCC.out.2.2⟩, ⟨HPC.out.2.2.1, by have := HNN.out; omega, HPC.out.2.2.2⟩, ?_, ?_, ?_⟩, HBD.out, HG.out.up (by omega)⟩, ?_⟩
  · exact (HI5.out.bar (Bar.setCell D2 _ _ _) (by have := HLL.out; have := HL.out; omega) (by have := HLL.out; have := HL.out; omega)).bar (bar3 _ _ _ _ _) (by have := HL.out; omega) (by have := HL.out; omega)
  · exact (HQ15.out.bar (Bar.setCell D2 _ _ _) HNN.out.1).bar (bar3 _ _ _ _ _) HPC.out.1
  · exact S2'.out.bar (bar3 _ _ _ _ _) n3
  · exact (HQ35.out.bar (Bar.setCell D2 _ _ _) HNN.out.2.1).bar (bar3 _ _ _ _ _) HPC.out.2.1
  · refine bar_end ?_ (by omega)
    have hb : Below (w.heap.size + 1 + 1) W5 (W5.setCell ⟨D2, p, none⟩ (.bool true)) := (Below.refl _ _).setCell (p := ⟨D2, p, none⟩) (by have := HLL.out; show _ ≤ D2; omega) _
    exact ⟨hb.os.trans HB5.out.1, hb.tape.trans HB5.out.2.1, hb.output.trans HB5.out.2.2.1, Nat.le_trans HB5.out.size hb.size, fun k hk hne => (hb.block k (by omega)).trans (HB5.out.2.2.2.2 k hk hne)⟩
  · exact fun k u w1 w2 hb h => watchR_on hb h
  · intro i hi o ho ev w1 hb hc ht hd
    have hb1 : Below W1.heap.size W1 w1 := Below.trans hHeld (hb.mono hHeld.size)
    have hsz : N1 + 1 ≤ w1.heap.size := by have := hb1.size; have := HN1.out; omega
    simp only [List.mem_cons, List.not_mem_nil, or_false] at hi
    rcases hi with rfl | rfl | rfl | rfl
    · simp only [List.getElem?_toArray, List.getElem?_cons_succ, List.getElem?_cons_zero, Option.some.injEq] at ho
      subst ho
      have hbs := hbs33
      exact does_of (u := .slice (some ⟨w1.heap.size, 0, none⟩) 0 0) (w' := w1.alloc (.cells #[] 4)) (by go_simp) ⟨(Below.refl _ _).alloc (Nat.le_refl _) _, w1.heap.size, rfl⟩
    · simp only [List.getElem?_toArray, List.getElem?_cons_succ, List.getElem?_cons_zero, Option.some.injEq] at ho
      subst ho
      have t139 : ev (.tmp 139) = .slice (some ⟨B2, 0, none⟩) K c2 := ht 139 (by decide)
      obtain ⟨Be, t137⟩ : R7 (ev (.tmp 137)) := hd ⟨2, .data⟩ (by simp) rfl (by simp) 137 rfl
      obtain ⟨i0, q1, q2, q3, q4⟩ := info_parts info_bool10
      obtain ⟨c', w2, hr, hown, hb2⟩ := append_empty (P := Try.prog) w1 33 33 4 i0 (.bool false) Try.underlying33 q1 q2 q3 rfl (by rw [q4]; omega) Be ⟨B2, 0, none⟩ K c2 (rowWL K wa) (by simp [rowWL]) (fun j u hj => by obtain ⟨h3, rfl⟩ := rowWL_get hj; rw [Addr.add_lit, Nat.zero_add]; exact HQ2'.out.on hb1 j h3) (by omega) (by omega) (N1 + 1) (by omega)
      exact does_of (by simp only [execOp, resolve, invoke, builtin, Sem.run_bind, Sem.run_pure, Result.andThen_ok, List.map_toArray, List.map_cons, List.map_nil, t137, t139, hr]) ⟨hb2, w1.heap.size, c', rfl, hown⟩
    · simp only [List.getElem?_toArray, List.getElem?_cons_succ, List.getElem?_cons_zero, Option.some.injEq] at ho
      subst ho
      have t136 : ev (.tmp 136) = .slice (some ⟨B1, 0, none⟩) (64 * K) c1 := ht 136 (by decide)
      have t142 : ev (.tmp 142) = .slice (some ⟨B3, 0, none⟩) K c3 := ht 142 (by decide)
      have r140 : OW N1 K wa (ev (.tmp 140)) w1 := hd ⟨5, .data⟩ (by simp) rfl (by simp) 140 rfl
      obtain ⟨D2, d2, t140, _⟩ := id r140
      rw [t140] at r140
      refine does_of (u := .agg #[.slice (some ⟨B1, 0, none⟩) (64 * K) c1, .slice (some ⟨D2, 0, none⟩) K d2, .slice (some ⟨B3, 0, none⟩) K c3]) (w' := w1) ?_ ⟨Below.refl _ _, _, rfl, r140⟩
      clear r140
      go_simp
    · simp only [List.getElem?_toArray, List.getElem?_cons_succ, List.getElem?_cons_zero, Option.some.injEq] at ho
      subst ho
      refine does_of (u := .pointer (some ⟨w1.heap.size, 0, none⟩)) (w' := w1.alloc (.cells #[.slice none 0 0, .slice none 0 0, .slice none 0 0] 36)) ?_ ⟨(Below.refl _ _).alloc (Nat.le_refl _) _, w1.heap.size, rfl, by omega, heap_alloc_new _ _⟩
      go_simp
end Go.Proofs.Ytkgamoacjkmhkaa
