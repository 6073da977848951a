/- Layer 10: one step, done by both: a load. -/
import Derived.Test.YtkgamoacjkmhkaaRamStepC
import Derived.Test.YtkgamoacjkmhkaaEach
namespace Go.Proofs.Ytkgamoacjkmhkaa
open Go.RowKit
set_option linter.unusedVariables false
set_option linter.unusedSimpArgs false

set_option maxRecDepth 100000 in
set_option maxHeartbeats 2000000 in
theorem step1_2 (R P K : Nat) (b : Nat → Int) (wa : Nat → Bool) (g : Nat → Int) (m : Int) (v : Value) (addr n x : Int) (sv : Option Addr) (len cap : Nat) (w : World) (hK1 : 1 ≤ K) (hK : K ≤ 1024) (hi : IsRam w R P K b wa g) (hr : RefV w P v K b wa g) (hbd : BdB K b) (hg : BdG K g m) (hm : m ≤ 1000) (a0 : 0 ≤ addr) (a1 : addr < 4294967296) (x0 : 0 ≤ x) (x1 : x < 4294967296) (hz : askZ K addr n = 2) :
    Calls Try.prog 14 #[.pointer (some ⟨R, 0, none⟩), v, .agg #[.int .i64 1, .int .u32 addr, .int .i64 n, .int .u32 x, .slice sv len cap]] w fun e w' => ∃ v', e = .returned (.tuple #[v', .bool true]) ∧ StepOut w' R P K v' (m + 1) ∧ Bar P w w' := by
  have HLD : Hid (∀ W : World, IsRam W R P K b wa g → Calls Try.prog 19 #[.pointer (some ⟨R, 0, none⟩), .int .u32 addr, .int .i64 n] W fun e w' => e = .returned (.tuple #[.int .u32 0, .int .i64 2]) ∧ w' = W) := fun W hW => by
    have := load_no R P K addr n W hK hW.ptr a0 a1 (by omega)
    rwa [hz] at this
  have HAS : Hid (∀ (W : World) (s : Option Addr) (c : Nat), Calls Try.prog 25 #[.slice s (64 * K) c, .int .u32 addr, .int .i64 n] W fun e w' => e = .returned (.int .i64 2) ∧ w' = W) := fun W s c => by
    have := rask10_any K s c addr n W hK a0 a1
    rwa [hz] at this
  clear hz
  obtain ⟨B1, B2, B3, c1, c2, c3, rfl, hc, hp, q1, q2, q3⟩ := hr
  have hr : RefV w P (.agg #[.slice (some ⟨B1, 0, none⟩) (64 * K) c1, .slice (some ⟨B2, 0, none⟩) K c2, .slice (some ⟨B3, 0, none⟩) K c3]) K b wa g := ⟨B1, B2, B3, c1, c2, c3, rfl, hc, hp, q1, q2, q3⟩
  obtain ⟨l1, l2⟩ := hi.lt
  obtain ⟨hS, hB0, hsz⟩ := step_start w (.slice (some ⟨B1, 0, none⟩) (64 * K) c1) (.slice (some ⟨B2, 0, none⟩) K c2) (.slice (some ⟨B3, 0, none⟩) K c3) (.int .i64 1) (.int .u32 addr) (.int .i64 n) (.int .u32 x) (.slice sv len cap)
  obtain ⟨W0, hW0⟩ : ∃ W0, W0 = (((w.alloc (.cells #[.slice (some ⟨B1, 0, none⟩) (64 * K) c1, .slice (some ⟨B2, 0, none⟩) K c2, .slice (some ⟨B3, 0, none⟩) K c3] 36)).alloc (.cells #[.int .i64 1, .int .u32 addr, .int .i64 n, .int .u32 x, .slice sv len cap] 42)).alloc (.cells #[.slice none 0 0, .slice none 0 0, .slice none 0 0] 36)) := ⟨_, rfl⟩
  rw [← hW0] at hS hB0 hsz
  have HW0 := Lib.hid hW0
  have HI : Hid (IsRam W0 R P K b wa g) := hi.on hB0
  have HR : Hid (RefW W0 P (w.heap.size + 1 + 1) (.agg #[.slice (some ⟨B1, 0, none⟩) (64 * K) c1, .slice (some ⟨B2, 0, none⟩) K c2, .slice (some ⟨B3, 0, none⟩) K c3]) K b wa g) := (hr.two hK1 (C := w.heap.size + 1 + 1) (by omega)).on hB0
  have HS := Lib.hid hS
  have HST : Hid (StepS w R P K (.slice (some ⟨B1, 0, none⟩) (64 * K) c1) (.slice (some ⟨B2, 0, none⟩) K c2) (.slice (some ⟨B3, 0, none⟩) K c3) (.int .i64 1) (.int .u32 addr) (.int .i64 n) (.int .u32 x) (.slice sv len cap) (.agg #[.slice (some ⟨B1, 0, none⟩) (64 * K) c1, .slice (some ⟨B2, 0, none⟩) K c2, .slice (some ⟨B3, 0, none⟩) K c3]) b wa g W0) := ⟨Bar.of P hB0, ⟨hS.1, hS.2.1⟩, HI.out, HR.out⟩
  have HB0 := Lib.hid hB0
  have HSZ := Lib.hid hsz
  have HL : Hid (R < w.heap.size ∧ P < w.heap.size) := ⟨l1, l2⟩
  have HCC := Lib.hid hc
  have HQ1 : Hid (RowB W0 B1 (64 * K) b) := q1.on hB0
  have HQ2 : Hid (RowW W0 B2 K wa) := q2.on hB0
  have HQ3 : Hid (RowG W0 B3 K g) := q3.on hB0
  have HBD := Lib.hid hbd
  have HG := Lib.hid hg
  clear hi hr hc hp q1 q2 q3 hB0 hsz hS hW0 l1 l2 hbd hg
  go_enter Try.func14, Try.ntmps14
  go_wp2_with fail
  rw [← HW0.out]
  refine (HLD.out _ HI.out).mono ?_
  rintro e w' ⟨rfl, hw⟩; have hw := hw.symm; subst hw
  obtain ⟨⟨b0, b1, b2⟩, ⟨s0, s1, s2, s3, s4⟩, ⟨r0, r1, r2⟩, ⟨z0, z1, z2⟩⟩ : ((W0.cell? ⟨w.heap.size, 0, none⟩ = some (.slice (some ⟨B1, 0, none⟩) (64 * K) c1) ∧ W0.cell? ⟨w.heap.size, 1, none⟩ = some (.slice (some ⟨B2, 0, none⟩) K c2) ∧ W0.cell? ⟨w.heap.size, 2, none⟩ = some (.slice (some ⟨B3, 0, none⟩) K c3)) ∧ (W0.cell? ⟨w.heap.size + 1, 0, none⟩ = some (.int .i64 1) ∧ W0.cell? ⟨w.heap.size + 1, 1, none⟩ = some (.int .u32 addr) ∧ W0.cell? ⟨w.heap.size + 1, 2, none⟩ = some (.int .i64 n) ∧ W0.cell? ⟨w.heap.size + 1, 3, none⟩ = some (.int .u32 x) ∧ W0.cell? ⟨w.heap.size + 1, 4, none⟩ = some (.slice sv len cap)) ∧ (W0.cell? ⟨w.heap.size + 1 + 1, 0, none⟩ = some (.slice none 0 0) ∧ W0.cell? ⟨w.heap.size + 1 + 1, 1, none⟩ = some (.slice none 0 0) ∧ W0.cell? ⟨w.heap.size + 1 + 1, 2, none⟩ = some (.slice none 0 0)) ∧ (W0.frozen? ⟨w.heap.size + 1 + 1, 0, none⟩ = false ∧ W0.frozen? ⟨w.heap.size + 1 + 1, 1, none⟩ = false ∧ W0.frozen? ⟨w.heap.size + 1 + 1, 2, none⟩ = false)) := ⟨HS.out.1.cells, HS.out.2.1.cells, HS.out.2.2.cells, HS.out.2.2.free⟩
  go_wp2_with fail
  refine (HAS.out _ _ _).mono ?_
  rintro e w' ⟨rfl, hw⟩; have hw := hw.symm; subst hw
  go_wp2_with fail
  refine wp_region_held_drew (S := StepS w R P K (.slice (some ⟨B1, 0, none⟩) (64 * K) c1) (.slice (some ⟨B2, 0, none⟩) K c2) (.slice (some ⟨B3, 0, none⟩) K c3) (.int .i64 1) (.int .u32 addr) (.int .i64 n) (.int .u32 x) (.slice sv len cap) (.agg #[.slice (some ⟨B1, 0, none⟩) (64 * K) c1, .slice (some ⟨B2, 0, none⟩) K c2, .slice (some ⟨B3, 0, none⟩) K c3]) b wa g) (by kernel_rfl) (HST.out.on ((Below.refl _ _).drew)) (fun hHeld => ?_)
  refine wpAnyH_take (i := 0) (oi := ?o0) (v := ?v0) ?ho0 (by kernel_rfl) (by kernel_rfl) (by kernel_rfl) ?q0 ?y0 (by assumption) ?rest0
  case ho0 => (simp only [List.getElem?_toArray, List.getElem?_cons_succ, List.getElem?_cons_zero]; rfl)
  case q0 => exact fun _ _ _ h => h
  case y0 => (refine Or.inl ⟨by rfl, ?_⟩; intro w hSw; (try dsimp only at hSw); obtain ⟨qa, qb, qc⟩ := hSw.2.1.1.cells; go_simp; try with_reducible rfl)
  try simp only [Act.put, List.setIfInBounds_toArray, List.set_cons_zero, List.set_cons_succ]
  refine wpAnyH_take (i := 1) (oi := ?o1) (v := ?v1) ?ho1 (by kernel_rfl) (by kernel_rfl) (by kernel_rfl) ?q1 ?y1 (by assumption) ?rest1
  case ho1 => (simp only [List.getElem?_toArray, List.getElem?_cons_succ, List.getElem?_cons_zero]; rfl)
  case q1 => exact fun _ _ _ h => h
  case y1 => (refine Or.inl ⟨by rfl, ?_⟩; intro w hSw; (try dsimp only at hSw); go_simp; try with_reducible rfl)
  try simp only [Act.put, List.setIfInBounds_toArray, List.set_cons_zero, List.set_cons_succ]
  refine wpAnyH_take (i := 2) (oi := ?o2) (v := ?v2) ?ho2 (by kernel_rfl) (by kernel_rfl) (by kernel_rfl) ?q2 ?y2 (by assumption) ?rest2
  case ho2 => (simp only [List.getElem?_toArray, List.getElem?_cons_succ, List.getElem?_cons_zero]; rfl)
  case q2 => exact fun _ _ _ h => h
  case y2 => (refine Or.inl ⟨by rfl, ?_⟩; intro w hSw; (try dsimp only at hSw); go_simp; try with_reducible rfl)
  try simp only [Act.put, List.setIfInBounds_toArray, List.set_cons_zero, List.set_cons_succ]
  refine wpAnyH_take (i := 3) (oi := ?o3) (v := ?v3) ?ho3 (by kernel_rfl) (by kernel_rfl) (by kernel_rfl) ?q3 ?y3 (by assumption) ?rest3
  case ho3 => (simp only [List.getElem?_toArray, List.getElem?_cons_succ, List.getElem?_cons_zero]; rfl)
  case q3 => exact fun _ _ _ h => h
  case y3 => (refine Or.inl ⟨by rfl, ?_⟩; intro w hSw; (try dsimp only at hSw); go_simp; try with_reducible rfl)
  try simp only [Act.put, List.setIfInBounds_toArray, List.set_cons_zero, List.set_cons_succ]
  refine wpAnyH_take (i := 4) (oi := ?o4) (v := ?v4) ?ho4 (by kernel_rfl) (by kernel_rfl) (by kernel_rfl) ?q4 ?y4 (by assumption) ?rest4
  case ho4 => (simp only [List.getElem?_toArray, List.getElem?_cons_succ, List.getElem?_cons_zero]; rfl)
  case q4 => exact fun _ _ _ h => h
  case y4 => (refine Or.inl ⟨by rfl, ?_⟩; intro w hSw; (try dsimp only at hSw); go_simp; try with_reducible rfl)
  try simp only [Act.put, List.setIfInBounds_toArray, List.set_cons_zero, List.set_cons_succ]
  refine wpAnyH_take (i := 5) (oi := ?o5) (v := ?v5) ?ho5 (by kernel_rfl) (by kernel_rfl) (by kernel_rfl) ?q5 ?y5 (by assumption) ?rest5
  case ho5 => (simp only [List.getElem?_toArray, List.getElem?_cons_succ, List.getElem?_cons_zero]; rfl)
  case q5 => exact fun _ _ _ h => h
  case y5 => (refine Or.inl ⟨by rfl, ?_⟩; intro w hSw; (try dsimp only at hSw); go_simp; try with_reducible rfl)
  try simp only [Act.put, List.setIfInBounds_toArray, List.set_cons_zero, List.set_cons_succ]
  refine wpAnyH_take (i := 6) (oi := ?o6) (v := ?v6) ?ho6 (by kernel_rfl) (by kernel_rfl) (by kernel_rfl) ?q6 ?y6 (by assumption) ?rest6
  case ho6 => (simp only [List.getElem?_toArray, List.getElem?_cons_succ, List.getElem?_cons_zero]; rfl)
  case q6 => exact fun _ _ _ h => h
  case y6 => (refine Or.inl ⟨by rfl, ?_⟩; intro w hSw; (try dsimp only at hSw); go_simp; try with_reducible rfl)
  try simp only [Act.put, List.setIfInBounds_toArray, List.set_cons_zero, List.set_cons_succ]
  refine wpAnyH_take (i := 7) (oi := ?o7) (v := ?v7) ?ho7 (by kernel_rfl) (by kernel_rfl) (by kernel_rfl) ?q7 ?y7 (by assumption) ?rest7
  case ho7 => (simp only [List.getElem?_toArray, List.getElem?_cons_succ, List.getElem?_cons_zero]; rfl)
  case q7 => exact fun _ _ _ h => h
  case y7 => (refine Or.inl ⟨by rfl, ?_⟩; intro w hSw; (try dsimp only at hSw); go_simp; try with_reducible rfl)
  try simp only [Act.put, List.setIfInBounds_toArray, List.set_cons_zero, List.set_cons_succ]
  refine wpAnyH_take (i := 8) (oi := ?o8) (v := ?v8) ?ho8 (by kernel_rfl) (by kernel_rfl) (by kernel_rfl) ?q8 ?y8 (by assumption) ?rest8
  case ho8 => (simp only [List.getElem?_toArray, List.getElem?_cons_succ, List.getElem?_cons_zero]; rfl)
  case q8 => exact fun _ _ _ h => h
  case y8 => (refine Or.inl ⟨by rfl, ?_⟩; intro w hSw; (try dsimp only at hSw); go_simp; try with_reducible rfl)
  try simp only [Act.put, List.setIfInBounds_toArray, List.set_cons_zero, List.set_cons_succ]
  refine wpAnyH_take (i := 9) (oi := ?o9) (v := ?v9) ?ho9 (by kernel_rfl) (by kernel_rfl) (by kernel_rfl) ?q9 ?y9 (by assumption) ?rest9
  case ho9 => (simp only [List.getElem?_toArray, List.getElem?_cons_succ, List.getElem?_cons_zero]; rfl)
  case q9 => exact fun _ _ _ h => h
  case y9 => (refine Or.inl ⟨by rfl, ?_⟩; intro w hSw; (try dsimp only at hSw); go_simp; try with_reducible rfl)
  try simp only [Act.put, List.setIfInBounds_toArray, List.set_cons_zero, List.set_cons_succ]
  refine wpAnyH_take (i := 10) (oi := ?o10) (v := ?v10) ?ho10 (by kernel_rfl) (by kernel_rfl) (by kernel_rfl) ?q10 ?y10 (by assumption) ?rest10
  case ho10 => (simp only [List.getElem?_toArray, List.getElem?_cons_succ, List.getElem?_cons_zero]; rfl)
  case q10 => exact fun _ _ _ h => h
  case y10 => (refine Or.inl ⟨by rfl, ?_⟩; intro w hSw; (try dsimp only at hSw); go_simp; try with_reducible rfl)
  try simp only [Act.put, List.setIfInBounds_toArray, List.set_cons_zero, List.set_cons_succ]
  refine wpAnyH_take (i := 11) (oi := ?o11) (v := ?v11) ?ho11 (by kernel_rfl) (by kernel_rfl) (by kernel_rfl) ?q11 ?y11 (by assumption) ?rest11
  case ho11 => (simp only [List.getElem?_toArray, List.getElem?_cons_succ, List.getElem?_cons_zero]; rfl)
  case q11 => exact fun _ _ _ h => h
  case y11 => (refine Or.inl ⟨by rfl, ?_⟩; intro w hSw; (try dsimp only at hSw); go_simp; try with_reducible rfl)
  try simp only [Act.put, List.setIfInBounds_toArray, List.set_cons_zero, List.set_cons_succ]
  refine wpAnyH_take (i := 12) (oi := ?o12) (v := undef) ?ho12 (by kernel_rfl) (by kernel_rfl) (by kernel_rfl) ?q12 ?y12 (by assumption) ?rest12
  case ho12 => (simp only [List.getElem?_toArray, List.getElem?_cons_succ, List.getElem?_cons_zero]; rfl)
  case q12 => exact fun _ _ _ h => h
  case y12 => exact Or.inr ⟨by rfl, rfl⟩
  try simp only [Act.put, List.setIfInBounds_toArray, List.set_cons_zero, List.set_cons_succ]
  refine wpAnyH_take (i := 13) (oi := ?o13) (v := undef) ?ho13 (by kernel_rfl) (by kernel_rfl) (by kernel_rfl) ?q13 ?y13 (by assumption) ?rest13
  case ho13 => (simp only [List.getElem?_toArray, List.getElem?_cons_succ, List.getElem?_cons_zero]; rfl)
  case q13 => exact fun _ _ _ h => h
  case y13 => exact Or.inr ⟨by rfl, rfl⟩
  try simp only [Act.put, List.setIfInBounds_toArray, List.set_cons_zero, List.set_cons_succ]
  refine wpAnyH_take (i := 14) (oi := ?o14) (v := undef) ?ho14 (by kernel_rfl) (by kernel_rfl) (by kernel_rfl) ?q14 ?y14 (by assumption) ?rest14
  case ho14 => (simp only [List.getElem?_toArray, List.getElem?_cons_succ, List.getElem?_cons_zero]; rfl)
  case q14 => exact fun _ _ _ h => h
  case y14 => exact Or.inr ⟨by rfl, rfl⟩
  try simp only [Act.put, List.setIfInBounds_toArray, List.set_cons_zero, List.set_cons_succ]
  refine wpAnyH_take (i := 15) (oi := ?o15) (v := undef) ?ho15 (by kernel_rfl) (by kernel_rfl) (by kernel_rfl) ?q15 ?y15 (by assumption) ?rest15
  case ho15 => (simp only [List.getElem?_toArray, List.getElem?_cons_succ, List.getElem?_cons_zero]; rfl)
  case q15 => exact fun _ _ _ h => h
  case y15 => exact Or.inr ⟨by rfl, rfl⟩
  try simp only [Act.put, List.setIfInBounds_toArray, List.set_cons_zero, List.set_cons_succ]
  refine wpAnyH_take (i := 16) (oi := ?o16) (v := undef) ?ho16 (by kernel_rfl) (by kernel_rfl) (by kernel_rfl) ?q16 ?y16 (by assumption) ?rest16
  case ho16 => (simp only [List.getElem?_toArray, List.getElem?_cons_succ, List.getElem?_cons_zero]; rfl)
  case q16 => exact fun _ _ _ h => h
  case y16 => exact Or.inr ⟨by rfl, rfl⟩
  try simp only [Act.put, List.setIfInBounds_toArray, List.set_cons_zero, List.set_cons_succ]
  refine wpAnyH_take (i := 17) (oi := ?o17) (v := undef) ?ho17 (by kernel_rfl) (by kernel_rfl) (by kernel_rfl) ?q17 ?y17 (by assumption) ?rest17
  case ho17 => (simp only [List.getElem?_toArray, List.getElem?_cons_succ, List.getElem?_cons_zero]; rfl)
  case q17 => exact fun _ _ _ h => h
  case y17 => exact Or.inr ⟨by rfl, rfl⟩
  try simp only [Act.put, List.setIfInBounds_toArray, List.set_cons_zero, List.set_cons_succ]
  refine wpAnyH_take (i := 18) (oi := ?o18) (v := undef) ?ho18 (by kernel_rfl) (by kernel_rfl) (by kernel_rfl) ?q18 ?y18 (by assumption) ?rest18
  case ho18 => (simp only [List.getElem?_toArray, List.getElem?_cons_succ, List.getElem?_cons_zero]; rfl)
  case q18 => exact fun _ _ _ h => h
  case y18 => exact Or.inr ⟨by rfl, rfl⟩
  try simp only [Act.put, List.setIfInBounds_toArray, List.set_cons_zero, List.set_cons_succ]
  refine wpAnyH_take (i := 19) (oi := ?o19) (v := undef) ?ho19 (by kernel_rfl) (by kernel_rfl) (by kernel_rfl) ?q19 ?y19 (by assumption) ?rest19
  case ho19 => (simp only [List.getElem?_toArray, List.getElem?_cons_succ, List.getElem?_cons_zero]; rfl)
  case q19 => exact fun _ _ _ h => h
  case y19 => exact Or.inr ⟨by rfl, rfl⟩
  try simp only [Act.put, List.setIfInBounds_toArray, List.set_cons_zero, List.set_cons_succ]
  refine wpAnyH_take (i := 20) (oi := ?o20) (v := undef) ?ho20 (by kernel_rfl) (by kernel_rfl) (by kernel_rfl) ?q20 ?y20 (by assumption) ?rest20
  case ho20 => (simp only [List.getElem?_toArray, List.getElem?_cons_succ, List.getElem?_cons_zero]; rfl)
  case q20 => exact fun _ _ _ h => h
  case y20 => exact Or.inr ⟨by rfl, rfl⟩
  try simp only [Act.put, List.setIfInBounds_toArray, List.set_cons_zero, List.set_cons_succ]
  refine wpAnyH_take (i := 21) (oi := ?o21) (v := undef) ?ho21 (by kernel_rfl) (by kernel_rfl) (by kernel_rfl) ?q21 ?y21 (by assumption) ?rest21
  case ho21 => (simp only [List.getElem?_toArray, List.getElem?_cons_succ, List.getElem?_cons_zero]; rfl)
  case q21 => exact fun _ _ _ h => h
  case y21 => exact Or.inr ⟨by rfl, rfl⟩
  try simp only [Act.put, List.setIfInBounds_toArray, List.set_cons_zero, List.set_cons_succ]
  refine wpAnyH_take (i := 22) (oi := ?o22) (v := undef) ?ho22 (by kernel_rfl) (by kernel_rfl) (by kernel_rfl) ?q22 ?y22 (by assumption) ?rest22
  case ho22 => (simp only [List.getElem?_toArray, List.getElem?_cons_succ, List.getElem?_cons_zero]; rfl)
  case q22 => exact fun _ _ _ h => h
  case y22 => exact Or.inr ⟨by rfl, rfl⟩
  try simp only [Act.put, List.setIfInBounds_toArray, List.set_cons_zero, List.set_cons_succ]
  refine wpAnyH_take (i := 23) (oi := ?o23) (v := undef) ?ho23 (by kernel_rfl) (by kernel_rfl) (by kernel_rfl) ?q23 ?y23 (by assumption) ?rest23
  case ho23 => (simp only [List.getElem?_toArray, List.getElem?_cons_succ, List.getElem?_cons_zero]; rfl)
  case q23 => exact fun _ _ _ h => h
  case y23 => exact Or.inr ⟨by rfl, rfl⟩
  try simp only [Act.put, List.setIfInBounds_toArray, List.set_cons_zero, List.set_cons_succ]
  refine wpAnyH_take (i := 24) (oi := ?o24) (v := undef) ?ho24 (by kernel_rfl) (by kernel_rfl) (by kernel_rfl) ?q24 ?y24 (by assumption) ?rest24
  case ho24 => (simp only [List.getElem?_toArray, List.getElem?_cons_succ, List.getElem?_cons_zero]; rfl)
  case q24 => exact fun _ _ _ h => h
  case y24 => exact Or.inr ⟨by rfl, rfl⟩
  try simp only [Act.put, List.setIfInBounds_toArray, List.set_cons_zero, List.set_cons_succ]
  refine wpAnyH_take (i := 25) (oi := ?o25) (v := ?v25) ?ho25 (by kernel_rfl) (by kernel_rfl) (by kernel_rfl) ?q25 ?y25 (by assumption) ?rest25
  case ho25 => (simp only [List.getElem?_toArray, List.getElem?_cons_succ, List.getElem?_cons_zero]; rfl)
  case q25 => exact fun _ _ _ h => h
  case y25 => (refine Or.inl ⟨by rfl, ?_⟩; intro w hSw; (try dsimp only at hSw); go_simp; try with_reducible rfl)
  try simp only [Act.put, List.setIfInBounds_toArray, List.set_cons_zero, List.set_cons_succ]
  refine wpAnyH_take (i := 26) (oi := ?o26) (v := ?v26) ?ho26 (by kernel_rfl) (by kernel_rfl) (by kernel_rfl) ?q26 ?y26 (by assumption) ?rest26
  case ho26 => (simp only [List.getElem?_toArray, List.getElem?_cons_succ, List.getElem?_cons_zero]; rfl)
  case q26 => exact fun _ _ _ h => h
  case y26 => (refine Or.inl ⟨by rfl, ?_⟩; intro w hSw; (try dsimp only at hSw); go_simp; try with_reducible rfl)
  try simp only [Act.put, List.setIfInBounds_toArray, List.set_cons_zero, List.set_cons_succ]
  refine wpAnyH_ready (rs := [27]) (by kernel_rfl) (by simp) (AllReadyH.cons rfl (fun Kx hKx => ?_) AllReadyH.nil)
  obtain ⟨⟨t0, t1, t2⟩, u0, u1, u2⟩ := three_cells (show (W0.drew).heap[w.heap.size + 1 + 1]? = some (.cells #[.slice none 0 0, .slice none 0 0, .slice none 0 0] 36 (0, 0)) from HS.out.2.2)
  have HH := Lib.hid hHeld
  clear hHeld
  go_simp
  refine hKx.out _ _ (HH.out.store HL.out _ _ _) (fun hHeld => ?_)
  clear hKx Kx
  refine wpAnyH_take (i := 28) (oi := ?o28) (v := ?v28) ?ho28 (by kernel_rfl) (by kernel_rfl) (by kernel_rfl) ?q28 ?y28 (by assumption) ?rest28
  case ho28 => (simp only [List.getElem?_toArray, List.getElem?_cons_succ, List.getElem?_cons_zero]; rfl)
  case q28 => exact fun _ _ _ h => h
  case y28 => (refine Or.inl ⟨by rfl, ?_⟩; intro w hSw; (try dsimp only at hSw); go_simp; try with_reducible rfl)
  try simp only [Act.put, List.setIfInBounds_toArray, List.set_cons_zero, List.set_cons_succ]
  refine wpAnyH_done (by kernel_rfl) ?_ _
  have HF := Lib.hid hHeld
  clear hHeld
  go_wp2
  refine bodyPost_ret (v := .tuple #[.agg #[.slice (some ⟨B1, 0, none⟩) (64 * K) c1, .slice (some ⟨B2, 0, none⟩) K c2, .slice (some ⟨B3, 0, none⟩) K c3], .bool true]) (by simp [results, Try.results14, go_sem, r0, r1, r2]) rfl ⟨_, rfl, HF.out.out HBD.out (HG.out.up (by omega))⟩

set_option maxRecDepth 100000 in
set_option maxHeartbeats 2000000 in
theorem step1_5 (R P K : Nat) (b : Nat → Int) (wa : Nat → Bool) (g : Nat → Int) (m : Int) (v : Value) (addr n x : Int) (sv : Option Addr) (len cap : Nat) (w : World) (hK1 : 1 ≤ K) (hK : K ≤ 1024) (hi : IsRam w R P K b wa g) (hr : RefV w P v K b wa g) (hbd : BdB K b) (hg : BdG K g m) (hm : m ≤ 1000) (a0 : 0 ≤ addr) (a1 : addr < 4294967296) (x0 : 0 ≤ x) (x1 : x < 4294967296) (hz : askZ K addr n = 5) :
    Calls Try.prog 14 #[.pointer (some ⟨R, 0, none⟩), v, .agg #[.int .i64 1, .int .u32 addr, .int .i64 n, .int .u32 x, .slice sv len cap]] w fun e w' => ∃ v', e = .returned (.tuple #[v', .bool true]) ∧ StepOut w' R P K v' (m + 1) ∧ Bar P w w' := by
  have HLD : Hid (∀ W : World, IsRam W R P K b wa g → Calls Try.prog 19 #[.pointer (some ⟨R, 0, none⟩), .int .u32 addr, .int .i64 n] W fun e w' => e = .returned (.tuple #[.int .u32 0, .int .i64 5]) ∧ w' = W) := fun W hW => by
    have := load_no R P K addr n W hK hW.ptr a0 a1 (by omega)
    rwa [hz] at this
  have HAS : Hid (∀ (W : World) (s : Option Addr) (c : Nat), Calls Try.prog 25 #[.slice s (64 * K) c, .int .u32 addr, .int .i64 n] W fun e w' => e = .returned (.int .i64 5) ∧ w' = W) := fun W s c => by
    have := rask10_any K s c addr n W hK a0 a1
    rwa [hz] at this
  clear hz
  obtain ⟨B1, B2, B3, c1, c2, c3, rfl, hc, hp, q1, q2, q3⟩ := hr
  have hr : RefV w P (.agg #[.slice (some ⟨B1, 0, none⟩) (64 * K) c1, .slice (some ⟨B2, 0, none⟩) K c2, .slice (some ⟨B3, 0, none⟩) K c3]) K b wa g := ⟨B1, B2, B3, c1, c2, c3, rfl, hc, hp, q1, q2, q3⟩
  obtain ⟨l1, l2⟩ := hi.lt
  obtain ⟨hS, hB0, hsz⟩ := step_start w (.slice (some ⟨B1, 0, none⟩) (64 * K) c1) (.slice (some ⟨B2, 0, none⟩) K c2) (.slice (some ⟨B3, 0, none⟩) K c3) (.int .i64 1) (.int .u32 addr) (.int .i64 n) (.int .u32 x) (.slice sv len cap)
  obtain ⟨W0, hW0⟩ : ∃ W0, W0 = (((w.alloc (.cells #[.slice (some ⟨B1, 0, none⟩) (64 * K) c1, .slice (some ⟨B2, 0, none⟩) K c2, .slice (some ⟨B3, 0, none⟩) K c3] 36)).alloc (.cells #[.int .i64 1, .int .u32 addr, .int .i64 n, .int .u32 x, .slice sv len cap] 42)).alloc (.cells #[.slice none 0 0, .slice none 0 0, .slice none 0 0] 36)) := ⟨_, rfl⟩
  rw [← hW0] at hS hB0 hsz
  have HW0 := Lib.hid hW0
  have HI : Hid (IsRam W0 R P K b wa g) := hi.on hB0
  have HR : Hid (RefW W0 P (w.heap.size + 1 + 1) (.agg #[.slice (some ⟨B1, 0, none⟩) (64 * K) c1, .slice (some ⟨B2, 0, none⟩) K c2, .slice (some ⟨B3, 0, none⟩) K c3]) K b wa g) := (hr.two hK1 (C := w.heap.size + 1 + 1) (by omega)).on hB0
  have HS := Lib.hid hS
  have HST : Hid (StepS w R P K (.slice (some ⟨B1, 0, none⟩) (64 * K) c1) (.slice (some ⟨B2, 0, none⟩) K c2) (.slice (some ⟨B3, 0, none⟩) K c3) (.int .i64 1) (.int .u32 addr) (.int .i64 n) (.int .u32 x) (.slice sv len cap) (.agg #[.slice (some ⟨B1, 0, none⟩) (64 * K) c1, .slice (some ⟨B2, 0, none⟩) K c2, .slice (some ⟨B3, 0, none⟩) K c3]) b wa g W0) := ⟨Bar.of P hB0, ⟨hS.1, hS.2.1⟩, HI.out, HR.out⟩
  have HB0 := Lib.hid hB0
  have HSZ := Lib.hid hsz
  have HL : Hid (R < w.heap.size ∧ P < w.heap.size) := ⟨l1, l2⟩
  have HCC := Lib.hid hc
  have HQ1 : Hid (RowB W0 B1 (64 * K) b) := q1.on hB0
  have HQ2 : Hid (RowW W0 B2 K wa) := q2.on hB0
  have HQ3 : Hid (RowG W0 B3 K g) := q3.on hB0
  have HBD := Lib.hid hbd
  have HG := Lib.hid hg
  clear hi hr hc hp q1 q2 q3 hB0 hsz hS hW0 l1 l2 hbd hg
  go_enter Try.func14, Try.ntmps14
  go_wp2_with fail
  rw [← HW0.out]
  refine (HLD.out _ HI.out).mono ?_
  rintro e w' ⟨rfl, hw⟩; have hw := hw.symm; subst hw
  obtain ⟨⟨b0, b1, b2⟩, ⟨s0, s1, s2, s3, s4⟩, ⟨r0, r1, r2⟩, ⟨z0, z1, z2⟩⟩ : ((W0.cell? ⟨w.heap.size, 0, none⟩ = some (.slice (some ⟨B1, 0, none⟩) (64 * K) c1) ∧ W0.cell? ⟨w.heap.size, 1, none⟩ = some (.slice (some ⟨B2, 0, none⟩) K c2) ∧ W0.cell? ⟨w.heap.size, 2, none⟩ = some (.slice (some ⟨B3, 0, none⟩) K c3)) ∧ (W0.cell? ⟨w.heap.size + 1, 0, none⟩ = some (.int .i64 1) ∧ W0.cell? ⟨w.heap.size + 1, 1, none⟩ = some (.int .u32 addr) ∧ W0.cell? ⟨w.heap.size + 1, 2, none⟩ = some (.int .i64 n) ∧ W0.cell? ⟨w.heap.size + 1, 3, none⟩ = some (.int .u32 x) ∧ W0.cell? ⟨w.heap.size + 1, 4, none⟩ = some (.slice sv len cap)) ∧ (W0.cell? ⟨w.heap.size + 1 + 1, 0, none⟩ = some (.slice none 0 0) ∧ W0.cell? ⟨w.heap.size + 1 + 1, 1, none⟩ = some (.slice none 0 0) ∧ W0.cell? ⟨w.heap.size + 1 + 1, 2, none⟩ = some (.slice none 0 0)) ∧ (W0.frozen? ⟨w.heap.size + 1 + 1, 0, none⟩ = false ∧ W0.frozen? ⟨w.heap.size + 1 + 1, 1, none⟩ = false ∧ W0.frozen? ⟨w.heap.size + 1 + 1, 2, none⟩ = false)) := ⟨HS.out.1.cells, HS.out.2.1.cells, HS.out.2.2.cells, HS.out.2.2.free⟩
  go_wp2_with fail
  refine (HAS.out _ _ _).mono ?_
  rintro e w' ⟨rfl, hw⟩; have hw := hw.symm; subst hw
  go_wp2_with fail
  refine wp_region_held_drew (S := StepS w R P K (.slice (some ⟨B1, 0, none⟩) (64 * K) c1) (.slice (some ⟨B2, 0, none⟩) K c2) (.slice (some ⟨B3, 0, none⟩) K c3) (.int .i64 1) (.int .u32 addr) (.int .i64 n) (.int .u32 x) (.slice sv len cap) (.agg #[.slice (some ⟨B1, 0, none⟩) (64 * K) c1, .slice (some ⟨B2, 0, none⟩) K c2, .slice (some ⟨B3, 0, none⟩) K c3]) b wa g) (by kernel_rfl) (HST.out.on ((Below.refl _ _).drew)) (fun hHeld => ?_)
  refine wpAnyH_take (i := 0) (oi := ?o0) (v := ?v0) ?ho0 (by kernel_rfl) (by kernel_rfl) (by kernel_rfl) ?q0 ?y0 (by assumption) ?rest0
  case ho0 => (simp only [List.getElem?_toArray, List.getElem?_cons_succ, List.getElem?_cons_zero]; rfl)
  case q0 => exact fun _ _ _ h => h
  case y0 => (refine Or.inl ⟨by rfl, ?_⟩; intro w hSw; (try dsimp only at hSw); obtain ⟨qa, qb, qc⟩ := hSw.2.1.1.cells; go_simp; try with_reducible rfl)
  try simp only [Act.put, List.setIfInBounds_toArray, List.set_cons_zero, List.set_cons_succ]
  refine wpAnyH_take (i := 1) (oi := ?o1) (v := ?v1) ?ho1 (by kernel_rfl) (by kernel_rfl) (by kernel_rfl) ?q1 ?y1 (by assumption) ?rest1
  case ho1 => (simp only [List.getElem?_toArray, List.getElem?_cons_succ, List.getElem?_cons_zero]; rfl)
  case q1 => exact fun _ _ _ h => h
  case y1 => (refine Or.inl ⟨by rfl, ?_⟩; intro w hSw; (try dsimp only at hSw); go_simp; try with_reducible rfl)
  try simp only [Act.put, List.setIfInBounds_toArray, List.set_cons_zero, List.set_cons_succ]
  refine wpAnyH_take (i := 2) (oi := ?o2) (v := ?v2) ?ho2 (by kernel_rfl) (by kernel_rfl) (by kernel_rfl) ?q2 ?y2 (by assumption) ?rest2
  case ho2 => (simp only [List.getElem?_toArray, List.getElem?_cons_succ, List.getElem?_cons_zero]; rfl)
  case q2 => exact fun _ _ _ h => h
  case y2 => (refine Or.inl ⟨by rfl, ?_⟩; intro w hSw; (try dsimp only at hSw); go_simp; try with_reducible rfl)
  try simp only [Act.put, List.setIfInBounds_toArray, List.set_cons_zero, List.set_cons_succ]
  refine wpAnyH_take (i := 3) (oi := ?o3) (v := ?v3) ?ho3 (by kernel_rfl) (by kernel_rfl) (by kernel_rfl) ?q3 ?y3 (by assumption) ?rest3
  case ho3 => (simp only [List.getElem?_toArray, List.getElem?_cons_succ, List.getElem?_cons_zero]; rfl)
  case q3 => exact fun _ _ _ h => h
  case y3 => (refine Or.inl ⟨by rfl, ?_⟩; intro w hSw; (try dsimp only at hSw); go_simp; try with_reducible rfl)
  try simp only [Act.put, List.setIfInBounds_toArray, List.set_cons_zero, List.set_cons_succ]
  refine wpAnyH_take (i := 4) (oi := ?o4) (v := ?v4) ?ho4 (by kernel_rfl) (by kernel_rfl) (by kernel_rfl) ?q4 ?y4 (by assumption) ?rest4
  case ho4 => (simp only [List.getElem?_toArray, List.getElem?_cons_succ, List.getElem?_cons_zero]; rfl)
  case q4 => exact fun _ _ _ h => h
  case y4 => (refine Or.inl ⟨by rfl, ?_⟩; intro w hSw; (try dsimp only at hSw); go_simp; try with_reducible rfl)
  try simp only [Act.put, List.setIfInBounds_toArray, List.set_cons_zero, List.set_cons_succ]
  refine wpAnyH_take (i := 5) (oi := ?o5) (v := ?v5) ?ho5 (by kernel_rfl) (by kernel_rfl) (by kernel_rfl) ?q5 ?y5 (by assumption) ?rest5
  case ho5 => (simp only [List.getElem?_toArray, List.getElem?_cons_succ, List.getElem?_cons_zero]; rfl)
  case q5 => exact fun _ _ _ h => h
  case y5 => (refine Or.inl ⟨by rfl, ?_⟩; intro w hSw; (try dsimp only at hSw); go_simp; try with_reducible rfl)
  try simp only [Act.put, List.setIfInBounds_toArray, List.set_cons_zero, List.set_cons_succ]
  refine wpAnyH_take (i := 6) (oi := ?o6) (v := ?v6) ?ho6 (by kernel_rfl) (by kernel_rfl) (by kernel_rfl) ?q6 ?y6 (by assumption) ?rest6
  case ho6 => (simp only [List.getElem?_toArray, List.getElem?_cons_succ, List.getElem?_cons_zero]; rfl)
  case q6 => exact fun _ _ _ h => h
  case y6 => (refine Or.inl ⟨by rfl, ?_⟩; intro w hSw; (try dsimp only at hSw); go_simp; try with_reducible rfl)
  try simp only [Act.put, List.setIfInBounds_toArray, List.set_cons_zero, List.set_cons_succ]
  refine wpAnyH_take (i := 7) (oi := ?o7) (v := ?v7) ?ho7 (by kernel_rfl) (by kernel_rfl) (by kernel_rfl) ?q7 ?y7 (by assumption) ?rest7
  case ho7 => (simp only [List.getElem?_toArray, List.getElem?_cons_succ, List.getElem?_cons_zero]; rfl)
  case q7 => exact fun _ _ _ h => h
  case y7 => (refine Or.inl ⟨by rfl, ?_⟩; intro w hSw; (try dsimp only at hSw); go_simp; try with_reducible rfl)
  try simp only [Act.put, List.setIfInBounds_toArray, List.set_cons_zero, List.set_cons_succ]
  refine wpAnyH_take (i := 8) (oi := ?o8) (v := ?v8) ?ho8 (by kernel_rfl) (by kernel_rfl) (by kernel_rfl) ?q8 ?y8 (by assumption) ?rest8
  case ho8 => (simp only [List.getElem?_toArray, List.getElem?_cons_succ, List.getElem?_cons_zero]; rfl)
  case q8 => exact fun _ _ _ h => h
  case y8 => (refine Or.inl ⟨by rfl, ?_⟩; intro w hSw; (try dsimp only at hSw); go_simp; try with_reducible rfl)
  try simp only [Act.put, List.setIfInBounds_toArray, List.set_cons_zero, List.set_cons_succ]
  refine wpAnyH_take (i := 9) (oi := ?o9) (v := ?v9) ?ho9 (by kernel_rfl) (by kernel_rfl) (by kernel_rfl) ?q9 ?y9 (by assumption) ?rest9
  case ho9 => (simp only [List.getElem?_toArray, List.getElem?_cons_succ, List.getElem?_cons_zero]; rfl)
  case q9 => exact fun _ _ _ h => h
  case y9 => (refine Or.inl ⟨by rfl, ?_⟩; intro w hSw; (try dsimp only at hSw); go_simp; try with_reducible rfl)
  try simp only [Act.put, List.setIfInBounds_toArray, List.set_cons_zero, List.set_cons_succ]
  refine wpAnyH_take (i := 10) (oi := ?o10) (v := ?v10) ?ho10 (by kernel_rfl) (by kernel_rfl) (by kernel_rfl) ?q10 ?y10 (by assumption) ?rest10
  case ho10 => (simp only [List.getElem?_toArray, List.getElem?_cons_succ, List.getElem?_cons_zero]; rfl)
  case q10 => exact fun _ _ _ h => h
  case y10 => (refine Or.inl ⟨by rfl, ?_⟩; intro w hSw; (try dsimp only at hSw); go_simp; try with_reducible rfl)
  try simp only [Act.put, List.setIfInBounds_toArray, List.set_cons_zero, List.set_cons_succ]
  refine wpAnyH_take (i := 11) (oi := ?o11) (v := ?v11) ?ho11 (by kernel_rfl) (by kernel_rfl) (by kernel_rfl) ?q11 ?y11 (by assumption) ?rest11
  case ho11 => (simp only [List.getElem?_toArray, List.getElem?_cons_succ, List.getElem?_cons_zero]; rfl)
  case q11 => exact fun _ _ _ h => h
  case y11 => (refine Or.inl ⟨by rfl, ?_⟩; intro w hSw; (try dsimp only at hSw); go_simp; try with_reducible rfl)
  try simp only [Act.put, List.setIfInBounds_toArray, List.set_cons_zero, List.set_cons_succ]
  refine wpAnyH_take (i := 12) (oi := ?o12) (v := undef) ?ho12 (by kernel_rfl) (by kernel_rfl) (by kernel_rfl) ?q12 ?y12 (by assumption) ?rest12
  case ho12 => (simp only [List.getElem?_toArray, List.getElem?_cons_succ, List.getElem?_cons_zero]; rfl)
  case q12 => exact fun _ _ _ h => h
  case y12 => exact Or.inr ⟨by rfl, rfl⟩
  try simp only [Act.put, List.setIfInBounds_toArray, List.set_cons_zero, List.set_cons_succ]
  refine wpAnyH_take (i := 13) (oi := ?o13) (v := undef) ?ho13 (by kernel_rfl) (by kernel_rfl) (by kernel_rfl) ?q13 ?y13 (by assumption) ?rest13
  case ho13 => (simp only [List.getElem?_toArray, List.getElem?_cons_succ, List.getElem?_cons_zero]; rfl)
  case q13 => exact fun _ _ _ h => h
  case y13 => exact Or.inr ⟨by rfl, rfl⟩
  try simp only [Act.put, List.setIfInBounds_toArray, List.set_cons_zero, List.set_cons_succ]
  refine wpAnyH_take (i := 14) (oi := ?o14) (v := undef) ?ho14 (by kernel_rfl) (by kernel_rfl) (by kernel_rfl) ?q14 ?y14 (by assumption) ?rest14
  case ho14 => (simp only [List.getElem?_toArray, List.getElem?_cons_succ, List.getElem?_cons_zero]; rfl)
  case q14 => exact fun _ _ _ h => h
  case y14 => exact Or.inr ⟨by rfl, rfl⟩
  try simp only [Act.put, List.setIfInBounds_toArray, List.set_cons_zero, List.set_cons_succ]
  refine wpAnyH_take (i := 15) (oi := ?o15) (v := undef) ?ho15 (by kernel_rfl) (by kernel_rfl) (by kernel_rfl) ?q15 ?y15 (by assumption) ?rest15
  case ho15 => (simp only [List.getElem?_toArray, List.getElem?_cons_succ, List.getElem?_cons_zero]; rfl)
  case q15 => exact fun _ _ _ h => h
  case y15 => exact Or.inr ⟨by rfl, rfl⟩
  try simp only [Act.put, List.setIfInBounds_toArray, List.set_cons_zero, List.set_cons_succ]
  refine wpAnyH_take (i := 16) (oi := ?o16) (v := undef) ?ho16 (by kernel_rfl) (by kernel_rfl) (by kernel_rfl) ?q16 ?y16 (by assumption) ?rest16
  case ho16 => (simp only [List.getElem?_toArray, List.getElem?_cons_succ, List.getElem?_cons_zero]; rfl)
  case q16 => exact fun _ _ _ h => h
  case y16 => exact Or.inr ⟨by rfl, rfl⟩
  try simp only [Act.put, List.setIfInBounds_toArray, List.set_cons_zero, List.set_cons_succ]
  refine wpAnyH_take (i := 17) (oi := ?o17) (v := undef) ?ho17 (by kernel_rfl) (by kernel_rfl) (by kernel_rfl) ?q17 ?y17 (by assumption) ?rest17
  case ho17 => (simp only [List.getElem?_toArray, List.getElem?_cons_succ, List.getElem?_cons_zero]; rfl)
  case q17 => exact fun _ _ _ h => h
  case y17 => exact Or.inr ⟨by rfl, rfl⟩
  try simp only [Act.put, List.setIfInBounds_toArray, List.set_cons_zero, List.set_cons_succ]
  refine wpAnyH_take (i := 18) (oi := ?o18) (v := undef) ?ho18 (by kernel_rfl) (by kernel_rfl) (by kernel_rfl) ?q18 ?y18 (by assumption) ?rest18
  case ho18 => (simp only [List.getElem?_toArray, List.getElem?_cons_succ, List.getElem?_cons_zero]; rfl)
  case q18 => exact fun _ _ _ h => h
  case y18 => exact Or.inr ⟨by rfl, rfl⟩
  try simp only [Act.put, List.setIfInBounds_toArray, List.set_cons_zero, List.set_cons_succ]
  refine wpAnyH_take (i := 19) (oi := ?o19) (v := undef) ?ho19 (by kernel_rfl) (by kernel_rfl) (by kernel_rfl) ?q19 ?y19 (by assumption) ?rest19
  case ho19 => (simp only [List.getElem?_toArray, List.getElem?_cons_succ, List.getElem?_cons_zero]; rfl)
  case q19 => exact fun _ _ _ h => h
  case y19 => exact Or.inr ⟨by rfl, rfl⟩
  try simp only [Act.put, List.setIfInBounds_toArray, List.set_cons_zero, List.set_cons_succ]
  refine wpAnyH_take (i := 20) (oi := ?o20) (v := undef) ?ho20 (by kernel_rfl) (by kernel_rfl) (by kernel_rfl) ?q20 ?y20 (by assumption) ?rest20
  case ho20 => (simp only [List.getElem?_toArray, List.getElem?_cons_succ, List.getElem?_cons_zero]; rfl)
  case q20 => exact fun _ _ _ h => h
  case y20 => exact Or.inr ⟨by rfl, rfl⟩
  try simp only [Act.put, List.setIfInBounds_toArray, List.set_cons_zero, List.set_cons_succ]
  refine wpAnyH_take (i := 21) (oi := ?o21) (v := undef) ?ho21 (by kernel_rfl) (by kernel_rfl) (by kernel_rfl) ?q21 ?y21 (by assumption) ?rest21
  case ho21 => (simp only [List.getElem?_toArray, List.getElem?_cons_succ, List.getElem?_cons_zero]; rfl)
  case q21 => exact fun _ _ _ h => h
  case y21 => exact Or.inr ⟨by rfl, rfl⟩
  try simp only [Act.put, List.setIfInBounds_toArray, List.set_cons_zero, List.set_cons_succ]
  refine wpAnyH_take (i := 22) (oi := ?o22) (v := undef) ?ho22 (by kernel_rfl) (by kernel_rfl) (by kernel_rfl) ?q22 ?y22 (by assumption) ?rest22
  case ho22 => (simp only [List.getElem?_toArray, List.getElem?_cons_succ, List.getElem?_cons_zero]; rfl)
  case q22 => exact fun _ _ _ h => h
  case y22 => exact Or.inr ⟨by rfl, rfl⟩
  try simp only [Act.put, List.setIfInBounds_toArray, List.set_cons_zero, List.set_cons_succ]
  refine wpAnyH_take (i := 23) (oi := ?o23) (v := undef) ?ho23 (by kernel_rfl) (by kernel_rfl) (by kernel_rfl) ?q23 ?y23 (by assumption) ?rest23
  case ho23 => (simp only [List.getElem?_toArray, List.getElem?_cons_succ, List.getElem?_cons_zero]; rfl)
  case q23 => exact fun _ _ _ h => h
  case y23 => exact Or.inr ⟨by rfl, rfl⟩
  try simp only [Act.put, List.setIfInBounds_toArray, List.set_cons_zero, List.set_cons_succ]
  refine wpAnyH_take (i := 24) (oi := ?o24) (v := undef) ?ho24 (by kernel_rfl) (by kernel_rfl) (by kernel_rfl) ?q24 ?y24 (by assumption) ?rest24
  case ho24 => (simp only [List.getElem?_toArray, List.getElem?_cons_succ, List.getElem?_cons_zero]; rfl)
  case q24 => exact fun _ _ _ h => h
  case y24 => exact Or.inr ⟨by rfl, rfl⟩
  try simp only [Act.put, List.setIfInBounds_toArray, List.set_cons_zero, List.set_cons_succ]
  refine wpAnyH_take (i := 25) (oi := ?o25) (v := ?v25) ?ho25 (by kernel_rfl) (by kernel_rfl) (by kernel_rfl) ?q25 ?y25 (by assumption) ?rest25
  case ho25 => (simp only [List.getElem?_toArray, List.getElem?_cons_succ, List.getElem?_cons_zero]; rfl)
  case q25 => exact fun _ _ _ h => h
  case y25 => (refine Or.inl ⟨by rfl, ?_⟩; intro w hSw; (try dsimp only at hSw); go_simp; try with_reducible rfl)
  try simp only [Act.put, List.setIfInBounds_toArray, List.set_cons_zero, List.set_cons_succ]
  refine wpAnyH_take (i := 26) (oi := ?o26) (v := ?v26) ?ho26 (by kernel_rfl) (by kernel_rfl) (by kernel_rfl) ?q26 ?y26 (by assumption) ?rest26
  case ho26 => (simp only [List.getElem?_toArray, List.getElem?_cons_succ, List.getElem?_cons_zero]; rfl)
  case q26 => exact fun _ _ _ h => h
  case y26 => (refine Or.inl ⟨by rfl, ?_⟩; intro w hSw; (try dsimp only at hSw); go_simp; try with_reducible rfl)
  try simp only [Act.put, List.setIfInBounds_toArray, List.set_cons_zero, List.set_cons_succ]
  refine wpAnyH_ready (rs := [27]) (by kernel_rfl) (by simp) (AllReadyH.cons rfl (fun Kx hKx => ?_) AllReadyH.nil)
  obtain ⟨⟨t0, t1, t2⟩, u0, u1, u2⟩ := three_cells (show (W0.drew).heap[w.heap.size + 1 + 1]? = some (.cells #[.slice none 0 0, .slice none 0 0, .slice none 0 0] 36 (0, 0)) from HS.out.2.2)
  have HH := Lib.hid hHeld
  clear hHeld
  go_simp
  refine hKx.out _ _ (HH.out.store HL.out _ _ _) (fun hHeld => ?_)
  clear hKx Kx
  refine wpAnyH_take (i := 28) (oi := ?o28) (v := ?v28) ?ho28 (by kernel_rfl) (by kernel_rfl) (by kernel_rfl) ?q28 ?y28 (by assumption) ?rest28
  case ho28 => (simp only [List.getElem?_toArray, List.getElem?_cons_succ, List.getElem?_cons_zero]; rfl)
  case q28 => exact fun _ _ _ h => h
  case y28 => (refine Or.inl ⟨by rfl, ?_⟩; intro w hSw; (try dsimp only at hSw); go_simp; try with_reducible rfl)
  try simp only [Act.put, List.setIfInBounds_toArray, List.set_cons_zero, List.set_cons_succ]
  refine wpAnyH_done (by kernel_rfl) ?_ _
  have HF := Lib.hid hHeld
  clear hHeld
  go_wp2
  refine bodyPost_ret (v := .tuple #[.agg #[.slice (some ⟨B1, 0, none⟩) (64 * K) c1, .slice (some ⟨B2, 0, none⟩) K c2, .slice (some ⟨B3, 0, none⟩) K c3], .bool true]) (by simp [results, Try.results14, go_sem, r0, r1, r2]) rfl ⟨_, rfl, HF.out.out HBD.out (HG.out.up (by omega))⟩

set_option maxRecDepth 100000 in
set_option maxHeartbeats 2000000 in
theorem step1_6 (R P K : Nat) (b : Nat → Int) (wa : Nat → Bool) (g : Nat → Int) (m : Int) (v : Value) (addr n x : Int) (sv : Option Addr) (len cap : Nat) (w : World) (hK1 : 1 ≤ K) (hK : K ≤ 1024) (hi : IsRam w R P K b wa g) (hr : RefV w P v K b wa g) (hbd : BdB K b) (hg : BdG K g m) (hm : m ≤ 1000) (a0 : 0 ≤ addr) (a1 : addr < 4294967296) (x0 : 0 ≤ x) (x1 : x < 4294967296) (hz : askZ K addr n = 6) :
    Calls Try.prog 14 #[.pointer (some ⟨R, 0, none⟩), v, .agg #[.int .i64 1, .int .u32 addr, .int .i64 n, .int .u32 x, .slice sv len cap]] w fun e w' => ∃ v', e = .returned (.tuple #[v', .bool true]) ∧ StepOut w' R P K v' (m + 1) ∧ Bar P w w' := by
  have HLD : Hid (∀ W : World, IsRam W R P K b wa g → Calls Try.prog 19 #[.pointer (some ⟨R, 0, none⟩), .int .u32 addr, .int .i64 n] W fun e w' => e = .returned (.tuple #[.int .u32 0, .int .i64 6]) ∧ w' = W) := fun W hW => by
    have := load_no R P K addr n W hK hW.ptr a0 a1 (by omega)
    rwa [hz] at this
  have HAS : Hid (∀ (W : World) (s : Option Addr) (c : Nat), Calls Try.prog 25 #[.slice s (64 * K) c, .int .u32 addr, .int .i64 n] W fun e w' => e = .returned (.int .i64 6) ∧ w' = W) := fun W s c => by
    have := rask10_any K s c addr n W hK a0 a1
    rwa [hz] at this
  clear hz
  obtain ⟨B1, B2, B3, c1, c2, c3, rfl, hc, hp, q1, q2, q3⟩ := hr
  have hr : RefV w P (.agg #[.slice (some ⟨B1, 0, none⟩) (64 * K) c1, .slice (some ⟨B2, 0, none⟩) K c2, .slice (some ⟨B3, 0, none⟩) K c3]) K b wa g := ⟨B1, B2, B3, c1, c2, c3, rfl, hc, hp, q1, q2, q3⟩
  obtain ⟨l1, l2⟩ := hi.lt
  obtain ⟨hS, hB0, hsz⟩ := step_start w (.slice (some ⟨B1, 0, none⟩) (64 * K) c1) (.slice (some ⟨B2, 0, none⟩) K c2) (.slice (some ⟨B3, 0, none⟩) K c3) (.int .i64 1) (.int .u32 addr) (.int .i64 n) (.int .u32 x) (.slice sv len cap)
  obtain ⟨W0, hW0⟩ : ∃ W0, W0 = (((w.alloc (.cells #[.slice (some ⟨B1, 0, none⟩) (64 * K) c1, .slice (some ⟨B2, 0, none⟩) K c2, .slice (some ⟨B3, 0, none⟩) K c3] 36)).alloc (.cells #[.int .i64 1, .int .u32 addr, .int .i64 n, .int .u32 x, .slice sv len cap] 42)).alloc (.cells #[.slice none 0 0, .slice none 0 0, .slice none 0 0] 36)) := ⟨_, rfl⟩
  rw [← hW0] at hS hB0 hsz
  have HW0 := Lib.hid hW0
  have HI : Hid (IsRam W0 R P K b wa g) := hi.on hB0
  have HR : Hid (RefW W0 P (w.heap.size + 1 + 1) (.agg #[.slice (some ⟨B1, 0, none⟩) (64 * K) c1, .slice (some ⟨B2, 0, none⟩) K c2, .slice (some ⟨B3, 0, none⟩) K c3]) K b wa g) := (hr.two hK1 (C := w.heap.size + 1 + 1) (by omega)).on hB0
  have HS := Lib.hid hS
  have HST : Hid (StepS w R P K (.slice (some ⟨B1, 0, none⟩) (64 * K) c1) (.slice (some ⟨B2, 0, none⟩) K c2) (.slice (some ⟨B3, 0, none⟩) K c3) (.int .i64 1) (.int .u32 addr) (.int .i64 n) (.int .u32 x) (.slice sv len cap) (.agg #[.slice (some ⟨B1, 0, none⟩) (64 * K) c1, .slice (some ⟨B2, 0, none⟩) K c2, .slice (some ⟨B3, 0, none⟩) K c3]) b wa g W0) := ⟨Bar.of P hB0, ⟨hS.1, hS.2.1⟩, HI.out, HR.out⟩
  have HB0 := Lib.hid hB0
  have HSZ := Lib.hid hsz
  have HL : Hid (R < w.heap.size ∧ P < w.heap.size) := ⟨l1, l2⟩
  have HCC := Lib.hid hc
  have HQ1 : Hid (RowB W0 B1 (64 * K) b) := q1.on hB0
  have HQ2 : Hid (RowW W0 B2 K wa) := q2.on hB0
  have HQ3 : Hid (RowG W0 B3 K g) := q3.on hB0
  have HBD := Lib.hid hbd
  have HG := Lib.hid hg
  clear hi hr hc hp q1 q2 q3 hB0 hsz hS hW0 l1 l2 hbd hg
  go_enter Try.func14, Try.ntmps14
  go_wp2_with fail
  rw [← HW0.out]
  refine (HLD.out _ HI.out).mono ?_
  rintro e w' ⟨rfl, hw⟩; have hw := hw.symm; subst hw
  obtain ⟨⟨b0, b1, b2⟩, ⟨s0, s1, s2, s3, s4⟩, ⟨r0, r1, r2⟩, ⟨z0, z1, z2⟩⟩ : ((W0.cell? ⟨w.heap.size, 0, none⟩ = some (.slice (some ⟨B1, 0, none⟩) (64 * K) c1) ∧ W0.cell? ⟨w.heap.size, 1, none⟩ = some (.slice (some ⟨B2, 0, none⟩) K c2) ∧ W0.cell? ⟨w.heap.size, 2, none⟩ = some (.slice (some ⟨B3, 0, none⟩) K c3)) ∧ (W0.cell? ⟨w.heap.size + 1, 0, none⟩ = some (.int .i64 1) ∧ W0.cell? ⟨w.heap.size + 1, 1, none⟩ = some (.int .u32 addr) ∧ W0.cell? ⟨w.heap.size + 1, 2, none⟩ = some (.int .i64 n) ∧ W0.cell? ⟨w.heap.size + 1, 3, none⟩ = some (.int .u32 x) ∧ W0.cell? ⟨w.heap.size + 1, 4, none⟩ = some (.slice sv len cap)) ∧ (W0.cell? ⟨w.heap.size + 1 + 1, 0, none⟩ = some (.slice none 0 0) ∧ W0.cell? ⟨w.heap.size + 1 + 1, 1, none⟩ = some (.slice none 0 0) ∧ W0.cell? ⟨w.heap.size + 1 + 1, 2, none⟩ = some (.slice none 0 0)) ∧ (W0.frozen? ⟨w.heap.size + 1 + 1, 0, none⟩ = false ∧ W0.frozen? ⟨w.heap.size + 1 + 1, 1, none⟩ = false ∧ W0.frozen? ⟨w.heap.size + 1 + 1, 2, none⟩ = false)) := ⟨HS.out.1.cells, HS.out.2.1.cells, HS.out.2.2.cells, HS.out.2.2.free⟩
  go_wp2_with fail
  refine (HAS.out _ _ _).mono ?_
  rintro e w' ⟨rfl, hw⟩; have hw := hw.symm; subst hw
  go_wp2_with fail
  refine wp_region_held_drew (S := StepS w R P K (.slice (some ⟨B1, 0, none⟩) (64 * K) c1) (.slice (some ⟨B2, 0, none⟩) K c2) (.slice (some ⟨B3, 0, none⟩) K c3) (.int .i64 1) (.int .u32 addr) (.int .i64 n) (.int .u32 x) (.slice sv len cap) (.agg #[.slice (some ⟨B1, 0, none⟩) (64 * K) c1, .slice (some ⟨B2, 0, none⟩) K c2, .slice (some ⟨B3, 0, none⟩) K c3]) b wa g) (by kernel_rfl) (HST.out.on ((Below.refl _ _).drew)) (fun hHeld => ?_)
  refine wpAnyH_take (i := 0) (oi := ?o0) (v := ?v0) ?ho0 (by kernel_rfl) (by kernel_rfl) (by kernel_rfl) ?q0 ?y0 (by assumption) ?rest0
  case ho0 => (simp only [List.getElem?_toArray, List.getElem?_cons_succ, List.getElem?_cons_zero]; rfl)
  case q0 => exact fun _ _ _ h => h
  case y0 => (refine Or.inl ⟨by rfl, ?_⟩; intro w hSw; (try dsimp only at hSw); obtain ⟨qa, qb, qc⟩ := hSw.2.1.1.cells; go_simp; try with_reducible rfl)
  try simp only [Act.put, List.setIfInBounds_toArray, List.set_cons_zero, List.set_cons_succ]
  refine wpAnyH_take (i := 1) (oi := ?o1) (v := ?v1) ?ho1 (by kernel_rfl) (by kernel_rfl) (by kernel_rfl) ?q1 ?y1 (by assumption) ?rest1
  case ho1 => (simp only [List.getElem?_toArray, List.getElem?_cons_succ, List.getElem?_cons_zero]; rfl)
  case q1 => exact fun _ _ _ h => h
  case y1 => (refine Or.inl ⟨by rfl, ?_⟩; intro w hSw; (try dsimp only at hSw); go_simp; try with_reducible rfl)
  try simp only [Act.put, List.setIfInBounds_toArray, List.set_cons_zero, List.set_cons_succ]
  refine wpAnyH_take (i := 2) (oi := ?o2) (v := ?v2) ?ho2 (by kernel_rfl) (by kernel_rfl) (by kernel_rfl) ?q2 ?y2 (by assumption) ?rest2
  case ho2 => (simp only [List.getElem?_toArray, List.getElem?_cons_succ, List.getElem?_cons_zero]; rfl)
  case q2 => exact fun _ _ _ h => h
  case y2 => (refine Or.inl ⟨by rfl, ?_⟩; intro w hSw; (try dsimp only at hSw); go_simp; try with_reducible rfl)
  try simp only [Act.put, List.setIfInBounds_toArray, List.set_cons_zero, List.set_cons_succ]
  refine wpAnyH_take (i := 3) (oi := ?o3) (v := ?v3) ?ho3 (by kernel_rfl) (by kernel_rfl) (by kernel_rfl) ?q3 ?y3 (by assumption) ?rest3
  case ho3 => (simp only [List.getElem?_toArray, List.getElem?_cons_succ, List.getElem?_cons_zero]; rfl)
  case q3 => exact fun _ _ _ h => h
  case y3 => (refine Or.inl ⟨by rfl, ?_⟩; intro w hSw; (try dsimp only at hSw); go_simp; try with_reducible rfl)
  try simp only [Act.put, List.setIfInBounds_toArray, List.set_cons_zero, List.set_cons_succ]
  refine wpAnyH_take (i := 4) (oi := ?o4) (v := ?v4) ?ho4 (by kernel_rfl) (by kernel_rfl) (by kernel_rfl) ?q4 ?y4 (by assumption) ?rest4
  case ho4 => (simp only [List.getElem?_toArray, List.getElem?_cons_succ, List.getElem?_cons_zero]; rfl)
  case q4 => exact fun _ _ _ h => h
  case y4 => (refine Or.inl ⟨by rfl, ?_⟩; intro w hSw; (try dsimp only at hSw); go_simp; try with_reducible rfl)
  try simp only [Act.put, List.setIfInBounds_toArray, List.set_cons_zero, List.set_cons_succ]
  refine wpAnyH_take (i := 5) (oi := ?o5) (v := ?v5) ?ho5 (by kernel_rfl) (by kernel_rfl) (by kernel_rfl) ?q5 ?y5 (by assumption) ?rest5
  case ho5 => (simp only [List.getElem?_toArray, List.getElem?_cons_succ, List.getElem?_cons_zero]; rfl)
  case q5 => exact fun _ _ _ h => h
  case y5 => (refine Or.inl ⟨by rfl, ?_⟩; intro w hSw; (try dsimp only at hSw); go_simp; try with_reducible rfl)
  try simp only [Act.put, List.setIfInBounds_toArray, List.set_cons_zero, List.set_cons_succ]
  refine wpAnyH_take (i := 6) (oi := ?o6) (v := ?v6) ?ho6 (by kernel_rfl) (by kernel_rfl) (by kernel_rfl) ?q6 ?y6 (by assumption) ?rest6
  case ho6 => (simp only [List.getElem?_toArray, List.getElem?_cons_succ, List.getElem?_cons_zero]; rfl)
  case q6 => exact fun _ _ _ h => h
  case y6 => (refine Or.inl ⟨by rfl, ?_⟩; intro w hSw; (try dsimp only at hSw); go_simp; try with_reducible rfl)
  try simp only [Act.put, List.setIfInBounds_toArray, List.set_cons_zero, List.set_cons_succ]
  refine wpAnyH_take (i := 7) (oi := ?o7) (v := ?v7) ?ho7 (by kernel_rfl) (by kernel_rfl) (by kernel_rfl) ?q7 ?y7 (by assumption) ?rest7
  case ho7 => (simp only [List.getElem?_toArray, List.getElem?_cons_succ, List.getElem?_cons_zero]; rfl)
  case q7 => exact fun _ _ _ h => h
  case y7 => (refine Or.inl ⟨by rfl, ?_⟩; intro w hSw; (try dsimp only at hSw); go_simp; try with_reducible rfl)
  try simp only [Act.put, List.setIfInBounds_toArray, List.set_cons_zero, List.set_cons_succ]
  refine wpAnyH_take (i := 8) (oi := ?o8) (v := ?v8) ?ho8 (by kernel_rfl) (by kernel_rfl) (by kernel_rfl) ?q8 ?y8 (by assumption) ?rest8
  case ho8 => (simp only [List.getElem?_toArray, List.getElem?_cons_succ, List.getElem?_cons_zero]; rfl)
  case q8 => exact fun _ _ _ h => h
  case y8 => (refine Or.inl ⟨by rfl, ?_⟩; intro w hSw; (try dsimp only at hSw); go_simp; try with_reducible rfl)
  try simp only [Act.put, List.setIfInBounds_toArray, List.set_cons_zero, List.set_cons_succ]
  refine wpAnyH_take (i := 9) (oi := ?o9) (v := ?v9) ?ho9 (by kernel_rfl) (by kernel_rfl) (by kernel_rfl) ?q9 ?y9 (by assumption) ?rest9
  case ho9 => (simp only [List.getElem?_toArray, List.getElem?_cons_succ, List.getElem?_cons_zero]; rfl)
  case q9 => exact fun _ _ _ h => h
  case y9 => (refine Or.inl ⟨by rfl, ?_⟩; intro w hSw; (try dsimp only at hSw); go_simp; try with_reducible rfl)
  try simp only [Act.put, List.setIfInBounds_toArray, List.set_cons_zero, List.set_cons_succ]
  refine wpAnyH_take (i := 10) (oi := ?o10) (v := ?v10) ?ho10 (by kernel_rfl) (by kernel_rfl) (by kernel_rfl) ?q10 ?y10 (by assumption) ?rest10
  case ho10 => (simp only [List.getElem?_toArray, List.getElem?_cons_succ, List.getElem?_cons_zero]; rfl)
  case q10 => exact fun _ _ _ h => h
  case y10 => (refine Or.inl ⟨by rfl, ?_⟩; intro w hSw; (try dsimp only at hSw); go_simp; try with_reducible rfl)
  try simp only [Act.put, List.setIfInBounds_toArray, List.set_cons_zero, List.set_cons_succ]
  refine wpAnyH_take (i := 11) (oi := ?o11) (v := ?v11) ?ho11 (by kernel_rfl) (by kernel_rfl) (by kernel_rfl) ?q11 ?y11 (by assumption) ?rest11
  case ho11 => (simp only [List.getElem?_toArray, List.getElem?_cons_succ, List.getElem?_cons_zero]; rfl)
  case q11 => exact fun _ _ _ h => h
  case y11 => (refine Or.inl ⟨by rfl, ?_⟩; intro w hSw; (try dsimp only at hSw); go_simp; try with_reducible rfl)
  try simp only [Act.put, List.setIfInBounds_toArray, List.set_cons_zero, List.set_cons_succ]
  refine wpAnyH_take (i := 12) (oi := ?o12) (v := undef) ?ho12 (by kernel_rfl) (by kernel_rfl) (by kernel_rfl) ?q12 ?y12 (by assumption) ?rest12
  case ho12 => (simp only [List.getElem?_toArray, List.getElem?_cons_succ, List.getElem?_cons_zero]; rfl)
  case q12 => exact fun _ _ _ h => h
  case y12 => exact Or.inr ⟨by rfl, rfl⟩
  try simp only [Act.put, List.setIfInBounds_toArray, List.set_cons_zero, List.set_cons_succ]
  refine wpAnyH_take (i := 13) (oi := ?o13) (v := undef) ?ho13 (by kernel_rfl) (by kernel_rfl) (by kernel_rfl) ?q13 ?y13 (by assumption) ?rest13
  case ho13 => (simp only [List.getElem?_toArray, List.getElem?_cons_succ, List.getElem?_cons_zero]; rfl)
  case q13 => exact fun _ _ _ h => h
  case y13 => exact Or.inr ⟨by rfl, rfl⟩
  try simp only [Act.put, List.setIfInBounds_toArray, List.set_cons_zero, List.set_cons_succ]
  refine wpAnyH_take (i := 14) (oi := ?o14) (v := undef) ?ho14 (by kernel_rfl) (by kernel_rfl) (by kernel_rfl) ?q14 ?y14 (by assumption) ?rest14
  case ho14 => (simp only [List.getElem?_toArray, List.getElem?_cons_succ, List.getElem?_cons_zero]; rfl)
  case q14 => exact fun _ _ _ h => h
  case y14 => exact Or.inr ⟨by rfl, rfl⟩
  try simp only [Act.put, List.setIfInBounds_toArray, List.set_cons_zero, List.set_cons_succ]
  refine wpAnyH_take (i := 15) (oi := ?o15) (v := undef) ?ho15 (by kernel_rfl) (by kernel_rfl) (by kernel_rfl) ?q15 ?y15 (by assumption) ?rest15
  case ho15 => (simp only [List.getElem?_toArray, List.getElem?_cons_succ, List.getElem?_cons_zero]; rfl)
  case q15 => exact fun _ _ _ h => h
  case y15 => exact Or.inr ⟨by rfl, rfl⟩
  try simp only [Act.put, List.setIfInBounds_toArray, List.set_cons_zero, List.set_cons_succ]
  refine wpAnyH_take (i := 16) (oi := ?o16) (v := undef) ?ho16 (by kernel_rfl) (by kernel_rfl) (by kernel_rfl) ?q16 ?y16 (by assumption) ?rest16
  case ho16 => (simp only [List.getElem?_toArray, List.getElem?_cons_succ, List.getElem?_cons_zero]; rfl)
  case q16 => exact fun _ _ _ h => h
  case y16 => exact Or.inr ⟨by rfl, rfl⟩
  try simp only [Act.put, List.setIfInBounds_toArray, List.set_cons_zero, List.set_cons_succ]
  refine wpAnyH_take (i := 17) (oi := ?o17) (v := undef) ?ho17 (by kernel_rfl) (by kernel_rfl) (by kernel_rfl) ?q17 ?y17 (by assumption) ?rest17
  case ho17 => (simp only [List.getElem?_toArray, List.getElem?_cons_succ, List.getElem?_cons_zero]; rfl)
  case q17 => exact fun _ _ _ h => h
  case y17 => exact Or.inr ⟨by rfl, rfl⟩
  try simp only [Act.put, List.setIfInBounds_toArray, List.set_cons_zero, List.set_cons_succ]
  refine wpAnyH_take (i := 18) (oi := ?o18) (v := undef) ?ho18 (by kernel_rfl) (by kernel_rfl) (by kernel_rfl) ?q18 ?y18 (by assumption) ?rest18
  case ho18 => (simp only [List.getElem?_toArray, List.getElem?_cons_succ, List.getElem?_cons_zero]; rfl)
  case q18 => exact fun _ _ _ h => h
  case y18 => exact Or.inr ⟨by rfl, rfl⟩
  try simp only [Act.put, List.setIfInBounds_toArray, List.set_cons_zero, List.set_cons_succ]
  refine wpAnyH_take (i := 19) (oi := ?o19) (v := undef) ?ho19 (by kernel_rfl) (by kernel_rfl) (by kernel_rfl) ?q19 ?y19 (by assumption) ?rest19
  case ho19 => (simp only [List.getElem?_toArray, List.getElem?_cons_succ, List.getElem?_cons_zero]; rfl)
  case q19 => exact fun _ _ _ h => h
  case y19 => exact Or.inr ⟨by rfl, rfl⟩
  try simp only [Act.put, List.setIfInBounds_toArray, List.set_cons_zero, List.set_cons_succ]
  refine wpAnyH_take (i := 20) (oi := ?o20) (v := undef) ?ho20 (by kernel_rfl) (by kernel_rfl) (by kernel_rfl) ?q20 ?y20 (by assumption) ?rest20
  case ho20 => (simp only [List.getElem?_toArray, List.getElem?_cons_succ, List.getElem?_cons_zero]; rfl)
  case q20 => exact fun _ _ _ h => h
  case y20 => exact Or.inr ⟨by rfl, rfl⟩
  try simp only [Act.put, List.setIfInBounds_toArray, List.set_cons_zero, List.set_cons_succ]
  refine wpAnyH_take (i := 21) (oi := ?o21) (v := undef) ?ho21 (by kernel_rfl) (by kernel_rfl) (by kernel_rfl) ?q21 ?y21 (by assumption) ?rest21
  case ho21 => (simp only [List.getElem?_toArray, List.getElem?_cons_succ, List.getElem?_cons_zero]; rfl)
  case q21 => exact fun _ _ _ h => h
  case y21 => exact Or.inr ⟨by rfl, rfl⟩
  try simp only [Act.put, List.setIfInBounds_toArray, List.set_cons_zero, List.set_cons_succ]
  refine wpAnyH_take (i := 22) (oi := ?o22) (v := undef) ?ho22 (by kernel_rfl) (by kernel_rfl) (by kernel_rfl) ?q22 ?y22 (by assumption) ?rest22
  case ho22 => (simp only [List.getElem?_toArray, List.getElem?_cons_succ, List.getElem?_cons_zero]; rfl)
  case q22 => exact fun _ _ _ h => h
  case y22 => exact Or.inr ⟨by rfl, rfl⟩
  try simp only [Act.put, List.setIfInBounds_toArray, List.set_cons_zero, List.set_cons_succ]
  refine wpAnyH_take (i := 23) (oi := ?o23) (v := undef) ?ho23 (by kernel_rfl) (by kernel_rfl) (by kernel_rfl) ?q23 ?y23 (by assumption) ?rest23
  case ho23 => (simp only [List.getElem?_toArray, List.getElem?_cons_succ, List.getElem?_cons_zero]; rfl)
  case q23 => exact fun _ _ _ h => h
  case y23 => exact Or.inr ⟨by rfl, rfl⟩
  try simp only [Act.put, List.setIfInBounds_toArray, List.set_cons_zero, List.set_cons_succ]
  refine wpAnyH_take (i := 24) (oi := ?o24) (v := undef) ?ho24 (by kernel_rfl) (by kernel_rfl) (by kernel_rfl) ?q24 ?y24 (by assumption) ?rest24
  case ho24 => (simp only [List.getElem?_toArray, List.getElem?_cons_succ, List.getElem?_cons_zero]; rfl)
  case q24 => exact fun _ _ _ h => h
  case y24 => exact Or.inr ⟨by rfl, rfl⟩
  try simp only [Act.put, List.setIfInBounds_toArray, List.set_cons_zero, List.set_cons_succ]
  refine wpAnyH_take (i := 25) (oi := ?o25) (v := ?v25) ?ho25 (by kernel_rfl) (by kernel_rfl) (by kernel_rfl) ?q25 ?y25 (by assumption) ?rest25
  case ho25 => (simp only [List.getElem?_toArray, List.getElem?_cons_succ, List.getElem?_cons_zero]; rfl)
  case q25 => exact fun _ _ _ h => h
  case y25 => (refine Or.inl ⟨by rfl, ?_⟩; intro w hSw; (try dsimp only at hSw); go_simp; try with_reducible rfl)
  try simp only [Act.put, List.setIfInBounds_toArray, List.set_cons_zero, List.set_cons_succ]
  refine wpAnyH_take (i := 26) (oi := ?o26) (v := ?v26) ?ho26 (by kernel_rfl) (by kernel_rfl) (by kernel_rfl) ?q26 ?y26 (by assumption) ?rest26
  case ho26 => (simp only [List.getElem?_toArray, List.getElem?_cons_succ, List.getElem?_cons_zero]; rfl)
  case q26 => exact fun _ _ _ h => h
  case y26 => (refine Or.inl ⟨by rfl, ?_⟩; intro w hSw; (try dsimp only at hSw); go_simp; try with_reducible rfl)
  try simp only [Act.put, List.setIfInBounds_toArray, List.set_cons_zero, List.set_cons_succ]
  refine wpAnyH_ready (rs := [27]) (by kernel_rfl) (by simp) (AllReadyH.cons rfl (fun Kx hKx => ?_) AllReadyH.nil)
  obtain ⟨⟨t0, t1, t2⟩, u0, u1, u2⟩ := three_cells (show (W0.drew).heap[w.heap.size + 1 + 1]? = some (.cells #[.slice none 0 0, .slice none 0 0, .slice none 0 0] 36 (0, 0)) from HS.out.2.2)
  have HH := Lib.hid hHeld
  clear hHeld
  go_simp
  refine hKx.out _ _ (HH.out.store HL.out _ _ _) (fun hHeld => ?_)
  clear hKx Kx
  refine wpAnyH_take (i := 28) (oi := ?o28) (v := ?v28) ?ho28 (by kernel_rfl) (by kernel_rfl) (by kernel_rfl) ?q28 ?y28 (by assumption) ?rest28
  case ho28 => (simp only [List.getElem?_toArray, List.getElem?_cons_succ, List.getElem?_cons_zero]; rfl)
  case q28 => exact fun _ _ _ h => h
  case y28 => (refine Or.inl ⟨by rfl, ?_⟩; intro w hSw; (try dsimp only at hSw); go_simp; try with_reducible rfl)
  try simp only [Act.put, List.setIfInBounds_toArray, List.set_cons_zero, List.set_cons_succ]
  refine wpAnyH_done (by kernel_rfl) ?_ _
  have HF := Lib.hid hHeld
  clear hHeld
  go_wp2
  refine bodyPost_ret (v := .tuple #[.agg #[.slice (some ⟨B1, 0, none⟩) (64 * K) c1, .slice (some ⟨B2, 0, none⟩) K c2, .slice (some ⟨B3, 0, none⟩) K c3], .bool true]) (by simp [results, Try.results14, go_sem, r0, r1, r2]) rfl ⟨_, rfl, HF.out.out HBD.out (HG.out.up (by omega))⟩


set_option maxRecDepth 100000 in
set_option maxHeartbeats 2000000 in
theorem step1_yes (R P K : Nat) (b : Nat → Int) (wa : Nat → Bool) (g : Nat → Int) (m : Int) (v : Value) (addr n x : Int) (sv : Option Addr) (len cap : Nat) (w : World) (hK1 : 1 ≤ K) (hK : K ≤ 1024) (hi : IsRam w R P K b wa g) (hr : RefV w P v K b wa g) (hbd : BdB K b) (hg : BdG K g m) (hm : m ≤ 1000) (a0 : 0 ≤ addr) (a1 : addr < 4294967296) (x0 : 0 ≤ x) (x1 : x < 4294967296) (hz : askZ K addr n = 0) :
    Calls Try.prog 14 #[.pointer (some ⟨R, 0, none⟩), v, .agg #[.int .i64 1, .int .u32 addr, .int .i64 n, .int .u32 x, .slice sv len cap]] w fun e w' => ∃ v', e = .returned (.tuple #[v', .bool true]) ∧ StepOut w' R P K v' (m + 1) ∧ Bar P w w' := by
  obtain ⟨hs, ho, hh⟩ := ask_ok hz
  have HLD : Hid (∀ W : World, IsRam W R P K b wa g → Calls Try.prog 19 #[.pointer (some ⟨R, 0, none⟩), .int .u32 addr, .int .i64 n] W fun e w' => e = .returned (.tuple #[.int .u32 (numTo (fun i => b ((addr - 2147483648).toNat + i)) n.toNat), .int .i64 0]) ∧ Q W w') := fun W hW => by
    have h3 := hasB_yes hh
    obtain ⟨k, rfl⟩ := Int.eq_ofNat_of_zero_le (show 0 ≤ n by omega)
    exact load_yes R P K (addr - 2147483648).toNat k addr b wa g W hK hW hbd (by omega) hs ho hh
  have HAS : Hid (∀ (W : World) (s : Option Addr) (c : Nat), Calls Try.prog 25 #[.slice s (64 * K) c, .int .u32 addr, .int .i64 n] W fun e w' => e = .returned (.int .i64 0) ∧ w' = W) := fun W s c => by
    have := rask10_any K s c addr n W hK a0 a1
    rwa [hz] at this
  have HRL : Hid (∀ (W : World) (B c : Nat), RowB W B (64 * K) b → 64 * K ≤ c → Calls Try.prog 26 #[.slice (some ⟨B, 0, none⟩) (64 * K) c, .int .u32 addr, .int .i64 n] W fun e w' => e = .returned (.int .u32 (numTo (fun i => b ((addr - 2147483648).toNat + i)) n.toNat)) ∧ Q W w') := fun W B c h1 h2 => by
    have h3 := hasB_yes hh
    have h4 := sizeB_yes hs
    obtain ⟨k, rfl⟩ := Int.eq_ofNat_of_zero_le (show 0 ≤ n by omega)
    exact rload10_any K (addr - 2147483648).toNat k addr B c b W hK h1 hbd (by omega) (by omega) (by omega) (by omega) h2
  clear hz hs ho hh
  generalize numTo (fun i => b ((addr - 2147483648).toNat + i)) n.toNat = y at *
  obtain ⟨B1, B2, B3, c1, c2, c3, rfl, hc, hp, q1, q2, q3⟩ := hr
  have hr : RefV w P (.agg #[.slice (some ⟨B1, 0, none⟩) (64 * K) c1, .slice (some ⟨B2, 0, none⟩) K c2, .slice (some ⟨B3, 0, none⟩) K c3]) K b wa g := ⟨B1, B2, B3, c1, c2, c3, rfl, hc, hp, q1, q2, q3⟩
  obtain ⟨l1, l2⟩ := hi.lt
  obtain ⟨hS, hB0, hsz⟩ := step_start w (.slice (some ⟨B1, 0, none⟩) (64 * K) c1) (.slice (some ⟨B2, 0, none⟩) K c2) (.slice (some ⟨B3, 0, none⟩) K c3) (.int .i64 1) (.int .u32 addr) (.int .i64 n) (.int .u32 x) (.slice sv len cap)
  obtain ⟨W0, hW0⟩ : ∃ W0, W0 = (((w.alloc (.cells #[.slice (some ⟨B1, 0, none⟩) (64 * K) c1, .slice (some ⟨B2, 0, none⟩) K c2, .slice (some ⟨B3, 0, none⟩) K c3] 36)).alloc (.cells #[.int .i64 1, .int .u32 addr, .int .i64 n, .int .u32 x, .slice sv len cap] 42)).alloc (.cells #[.slice none 0 0, .slice none 0 0, .slice none 0 0] 36)) := ⟨_, rfl⟩
  rw [← hW0] at hS hB0 hsz
  have HW0 := Lib.hid hW0
  have HI : Hid (IsRam W0 R P K b wa g) := hi.on hB0
  have HR : Hid (RefW W0 P (w.heap.size + 1 + 1) (.agg #[.slice (some ⟨B1, 0, none⟩) (64 * K) c1, .slice (some ⟨B2, 0, none⟩) K c2, .slice (some ⟨B3, 0, none⟩) K c3]) K b wa g) := (hr.two hK1 (C := w.heap.size + 1 + 1) (by omega)).on hB0
  have HS := Lib.hid hS
  have HST : Hid (StepS w R P K (.slice (some ⟨B1, 0, none⟩) (64 * K) c1) (.slice (some ⟨B2, 0, none⟩) K c2) (.slice (some ⟨B3, 0, none⟩) K c3) (.int .i64 1) (.int .u32 addr) (.int .i64 n) (.int .u32 x) (.slice sv len cap) (.agg #[.slice (some ⟨B1, 0, none⟩) (64 * K) c1, .slice (some ⟨B2, 0, none⟩) K c2, .slice (some ⟨B3, 0, none⟩) K c3]) b wa g W0) := ⟨Bar.of P hB0, ⟨hS.1, hS.2.1⟩, HI.out, HR.out⟩
  have HB0 := Lib.hid hB0
  have HSZ := Lib.hid hsz
  have HL : Hid (R < w.heap.size ∧ P < w.heap.size) := ⟨l1, l2⟩
  have HCC := Lib.hid hc
  have HQ1 : Hid (RowB W0 B1 (64 * K) b) := q1.on hB0
  have HQ2 : Hid (RowW W0 B2 K wa) := q2.on hB0
  have HQ3 : Hid (RowG W0 B3 K g) := q3.on hB0
  have HBD := Lib.hid hbd
  have HG := Lib.hid hg
  clear hi hr hc hp q1 q2 q3 hB0 hsz hS hW0 l1 l2 hbd hg
  go_enter Try.func14, Try.ntmps14
  go_wp2_with fail
  rw [← HW0.out]
  refine (HLD.out _ HI.out).mono ?_
  rintro e W1 ⟨rfl, hq⟩
  have hb1 : Below W0.heap.size W0 W1 := hq.below _
  have HI1 : Hid (IsRam W1 R P K b wa g) := HI.out.on hb1
  have HR1 : Hid (RefW W1 P (w.heap.size + 1 + 1) (.agg #[.slice (some ⟨B1, 0, none⟩) (64 * K) c1, .slice (some ⟨B2, 0, none⟩) K c2, .slice (some ⟨B3, 0, none⟩) K c3]) K b wa g) := HR.out.on hb1
  have HS1 := Lib.hid (HS.out.on hb1)
  have HQ1' : Hid (RowB W1 B1 (64 * K) b) := HQ1.out.on hb1
  have HST1 := Lib.hid (HST.out.on hb1)
  have HB1 : Hid (Below w.heap.size w W1) := HB0.out.trans (hb1.mono HB0.out.size)
  clear hb1 hq
  obtain ⟨⟨b0, b1, b2⟩, ⟨s0, s1, s2, s3, s4⟩, ⟨r0, r1, r2⟩, ⟨z0, z1, z2⟩⟩ : ((W1.cell? ⟨w.heap.size, 0, none⟩ = some (.slice (some ⟨B1, 0, none⟩) (64 * K) c1) ∧ W1.cell? ⟨w.heap.size, 1, none⟩ = some (.slice (some ⟨B2, 0, none⟩) K c2) ∧ W1.cell? ⟨w.heap.size, 2, none⟩ = some (.slice (some ⟨B3, 0, none⟩) K c3)) ∧ (W1.cell? ⟨w.heap.size + 1, 0, none⟩ = some (.int .i64 1) ∧ W1.cell? ⟨w.heap.size + 1, 1, none⟩ = some (.int .u32 addr) ∧ W1.cell? ⟨w.heap.size + 1, 2, none⟩ = some (.int .i64 n) ∧ W1.cell? ⟨w.heap.size + 1, 3, none⟩ = some (.int .u32 x) ∧ W1.cell? ⟨w.heap.size + 1, 4, none⟩ = some (.slice sv len cap)) ∧ (W1.cell? ⟨w.heap.size + 1 + 1, 0, none⟩ = some (.slice none 0 0) ∧ W1.cell? ⟨w.heap.size + 1 + 1, 1, none⟩ = some (.slice none 0 0) ∧ W1.cell? ⟨w.heap.size + 1 + 1, 2, none⟩ = some (.slice none 0 0)) ∧ (W1.frozen? ⟨w.heap.size + 1 + 1, 0, none⟩ = false ∧ W1.frozen? ⟨w.heap.size + 1 + 1, 1, none⟩ = false ∧ W1.frozen? ⟨w.heap.size + 1 + 1, 2, none⟩ = false)) := ⟨HS1.out.1.cells, HS1.out.2.1.cells, HS1.out.2.2.cells, HS1.out.2.2.free⟩
  go_wp2_with fail
  refine (HAS.out _ _ _).mono ?_
  rintro e w' ⟨rfl, hw⟩; have hw := hw.symm; subst hw
  go_wp2_with fail
  refine wp_region_held_drew (S := StepS w R P K (.slice (some ⟨B1, 0, none⟩) (64 * K) c1) (.slice (some ⟨B2, 0, none⟩) K c2) (.slice (some ⟨B3, 0, none⟩) K c3) (.int .i64 1) (.int .u32 addr) (.int .i64 n) (.int .u32 x) (.slice sv len cap) (.agg #[.slice (some ⟨B1, 0, none⟩) (64 * K) c1, .slice (some ⟨B2, 0, none⟩) K c2, .slice (some ⟨B3, 0, none⟩) K c3]) b wa g) (by kernel_rfl) (HST1.out.on ((Below.refl _ _).drew)) (fun hHeld => ?_)
  refine wpAnyH_take (i := 0) (oi := ?o0) (v := ?v0) ?ho0 (by kernel_rfl) (by kernel_rfl) (by kernel_rfl) ?q0 ?y0 (by assumption) ?rest0
  case ho0 => (simp only [List.getElem?_toArray, List.getElem?_cons_succ, List.getElem?_cons_zero]; rfl)
  case q0 => exact fun _ _ _ h => h
  case y0 => (refine Or.inl ⟨by rfl, ?_⟩; intro w hSw; (try dsimp only at hSw); obtain ⟨qa, qb, qc⟩ := hSw.2.1.1.cells; go_simp; try with_reducible rfl)
  try simp only [Act.put, List.setIfInBounds_toArray, List.set_cons_zero, List.set_cons_succ]
  refine wpAnyH_take (i := 1) (oi := ?o1) (v := ?v1) ?ho1 (by kernel_rfl) (by kernel_rfl) (by kernel_rfl) ?q1 ?y1 (by assumption) ?rest1
  case ho1 => (simp only [List.getElem?_toArray, List.getElem?_cons_succ, List.getElem?_cons_zero]; rfl)
  case q1 => exact fun _ _ _ h => h
  case y1 => (refine Or.inl ⟨by rfl, ?_⟩; intro w hSw; (try dsimp only at hSw); go_simp; try with_reducible rfl)
  try simp only [Act.put, List.setIfInBounds_toArray, List.set_cons_zero, List.set_cons_succ]
  refine wpAnyH_take (i := 2) (oi := ?o2) (v := ?v2) ?ho2 (by kernel_rfl) (by kernel_rfl) (by kernel_rfl) ?q2 ?y2 (by assumption) ?rest2
  case ho2 => (simp only [List.getElem?_toArray, List.getElem?_cons_succ, List.getElem?_cons_zero]; rfl)
  case q2 => exact fun _ _ _ h => h
  case y2 => (refine Or.inl ⟨by rfl, ?_⟩; intro w hSw; (try dsimp only at hSw); go_simp; try with_reducible rfl)
  try simp only [Act.put, List.setIfInBounds_toArray, List.set_cons_zero, List.set_cons_succ]
  refine wpAnyH_take (i := 3) (oi := ?o3) (v := ?v3) ?ho3 (by kernel_rfl) (by kernel_rfl) (by kernel_rfl) ?q3 ?y3 (by assumption) ?rest3
  case ho3 => (simp only [List.getElem?_toArray, List.getElem?_cons_succ, List.getElem?_cons_zero]; rfl)
  case q3 => exact fun _ _ _ h => h
  case y3 => (refine Or.inl ⟨by rfl, ?_⟩; intro w hSw; (try dsimp only at hSw); go_simp; try with_reducible rfl)
  try simp only [Act.put, List.setIfInBounds_toArray, List.set_cons_zero, List.set_cons_succ]
  refine wpAnyH_take (i := 4) (oi := ?o4) (v := ?v4) ?ho4 (by kernel_rfl) (by kernel_rfl) (by kernel_rfl) ?q4 ?y4 (by assumption) ?rest4
  case ho4 => (simp only [List.getElem?_toArray, List.getElem?_cons_succ, List.getElem?_cons_zero]; rfl)
  case q4 => exact fun _ _ _ h => h
  case y4 => (refine Or.inl ⟨by rfl, ?_⟩; intro w hSw; (try dsimp only at hSw); go_simp; try with_reducible rfl)
  try simp only [Act.put, List.setIfInBounds_toArray, List.set_cons_zero, List.set_cons_succ]
  refine wpAnyH_take (i := 5) (oi := ?o5) (v := ?v5) ?ho5 (by kernel_rfl) (by kernel_rfl) (by kernel_rfl) ?q5 ?y5 (by assumption) ?rest5
  case ho5 => (simp only [List.getElem?_toArray, List.getElem?_cons_succ, List.getElem?_cons_zero]; rfl)
  case q5 => exact fun _ _ _ h => h
  case y5 => (refine Or.inl ⟨by rfl, ?_⟩; intro w hSw; (try dsimp only at hSw); go_simp; try with_reducible rfl)
  try simp only [Act.put, List.setIfInBounds_toArray, List.set_cons_zero, List.set_cons_succ]
  refine wpAnyH_take (i := 6) (oi := ?o6) (v := ?v6) ?ho6 (by kernel_rfl) (by kernel_rfl) (by kernel_rfl) ?q6 ?y6 (by assumption) ?rest6
  case ho6 => (simp only [List.getElem?_toArray, List.getElem?_cons_succ, List.getElem?_cons_zero]; rfl)
  case q6 => exact fun _ _ _ h => h
  case y6 => (refine Or.inl ⟨by rfl, ?_⟩; intro w hSw; (try dsimp only at hSw); go_simp; try with_reducible rfl)
  try simp only [Act.put, List.setIfInBounds_toArray, List.set_cons_zero, List.set_cons_succ]
  refine wpAnyH_take (i := 7) (oi := ?o7) (v := ?v7) ?ho7 (by kernel_rfl) (by kernel_rfl) (by kernel_rfl) ?q7 ?y7 (by assumption) ?rest7
  case ho7 => (simp only [List.getElem?_toArray, List.getElem?_cons_succ, List.getElem?_cons_zero]; rfl)
  case q7 => exact fun _ _ _ h => h
  case y7 => (refine Or.inl ⟨by rfl, ?_⟩; intro w hSw; (try dsimp only at hSw); go_simp; try with_reducible rfl)
  try simp only [Act.put, List.setIfInBounds_toArray, List.set_cons_zero, List.set_cons_succ]
  refine wpAnyH_take (i := 8) (oi := ?o8) (v := undef) ?ho8 (by kernel_rfl) (by kernel_rfl) (by kernel_rfl) ?q8 ?y8 (by assumption) ?rest8
  case ho8 => (simp only [List.getElem?_toArray, List.getElem?_cons_succ, List.getElem?_cons_zero]; rfl)
  case q8 => exact fun _ _ _ h => h
  case y8 => exact Or.inr ⟨by rfl, rfl⟩
  try simp only [Act.put, List.setIfInBounds_toArray, List.set_cons_zero, List.set_cons_succ]
  refine wpAnyH_take (i := 9) (oi := ?o9) (v := undef) ?ho9 (by kernel_rfl) (by kernel_rfl) (by kernel_rfl) ?q9 ?y9 (by assumption) ?rest9
  case ho9 => (simp only [List.getElem?_toArray, List.getElem?_cons_succ, List.getElem?_cons_zero]; rfl)
  case q9 => exact fun _ _ _ h => h
  case y9 => exact Or.inr ⟨by rfl, rfl⟩
  try simp only [Act.put, List.setIfInBounds_toArray, List.set_cons_zero, List.set_cons_succ]
  refine wpAnyH_take (i := 10) (oi := ?o10) (v := ?v10) ?ho10 (by kernel_rfl) (by kernel_rfl) (by kernel_rfl) ?q10 ?y10 (by assumption) ?rest10
  case ho10 => (simp only [List.getElem?_toArray, List.getElem?_cons_succ, List.getElem?_cons_zero]; rfl)
  case q10 => exact fun _ _ _ h => h
  case y10 => (refine Or.inl ⟨by rfl, ?_⟩; intro w hSw; (try dsimp only at hSw); go_simp; try with_reducible rfl)
  try simp only [Act.put, List.setIfInBounds_toArray, List.set_cons_zero, List.set_cons_succ]
  refine wpAnyH_take (i := 11) (oi := ?o11) (v := ?v11) ?ho11 (by kernel_rfl) (by kernel_rfl) (by kernel_rfl) ?q11 ?y11 (by assumption) ?rest11
  case ho11 => (simp only [List.getElem?_toArray, List.getElem?_cons_succ, List.getElem?_cons_zero]; rfl)
  case q11 => exact fun _ _ _ h => h
  case y11 => (refine Or.inl ⟨by rfl, ?_⟩; intro w hSw; (try dsimp only at hSw); go_simp; try with_reducible rfl)
  try simp only [Act.put, List.setIfInBounds_toArray, List.set_cons_zero, List.set_cons_succ]
  refine wpAnyH_take (i := 12) (oi := ?o12) (v := ?v12) ?ho12 (by kernel_rfl) (by kernel_rfl) (by kernel_rfl) ?q12 ?y12 (by assumption) ?rest12
  case ho12 => (simp only [List.getElem?_toArray, List.getElem?_cons_succ, List.getElem?_cons_zero]; rfl)
  case q12 => exact fun _ _ _ h => h
  case y12 => (refine Or.inl ⟨by rfl, ?_⟩; intro w hSw; (try dsimp only at hSw); go_simp; try with_reducible rfl)
  try simp only [Act.put, List.setIfInBounds_toArray, List.set_cons_zero, List.set_cons_succ]
  refine wpAnyH_take (i := 13) (oi := ?o13) (v := ?v13) ?ho13 (by kernel_rfl) (by kernel_rfl) (by kernel_rfl) ?q13 ?y13 (by assumption) ?rest13
  case ho13 => (simp only [List.getElem?_toArray, List.getElem?_cons_succ, List.getElem?_cons_zero]; rfl)
  case q13 => exact fun _ _ _ h => h
  case y13 => (refine Or.inl ⟨by rfl, ?_⟩; intro w hSw; (try dsimp only at hSw); go_simp; try with_reducible rfl)
  try simp only [Act.put, List.setIfInBounds_toArray, List.set_cons_zero, List.set_cons_succ]
  refine wpAnyH_take (i := 14) (oi := ?o14) (v := ?v14) ?ho14 (by kernel_rfl) (by kernel_rfl) (by kernel_rfl) ?q14 ?y14 (by assumption) ?rest14
  case ho14 => (simp only [List.getElem?_toArray, List.getElem?_cons_succ, List.getElem?_cons_zero]; rfl)
  case q14 => exact fun _ _ _ h => h
  case y14 => (refine Or.inl ⟨by rfl, ?_⟩; intro w hSw; (try dsimp only at hSw); go_simp; try with_reducible rfl)
  try simp only [Act.put, List.setIfInBounds_toArray, List.set_cons_zero, List.set_cons_succ]
  refine wpAnyH_take (i := 15) (oi := ?o15) (v := ?v15) ?ho15 (by kernel_rfl) (by kernel_rfl) (by kernel_rfl) ?q15 ?y15 (by assumption) ?rest15
  case ho15 => (simp only [List.getElem?_toArray, List.getElem?_cons_succ, List.getElem?_cons_zero]; rfl)
  case q15 => exact fun _ _ _ h => h
  case y15 => (refine Or.inl ⟨by rfl, ?_⟩; intro w hSw; (try dsimp only at hSw); go_simp; try with_reducible rfl)
  try simp only [Act.put, List.setIfInBounds_toArray, List.set_cons_zero, List.set_cons_succ]
  refine wpAnyH_take (i := 16) (oi := ?o16) (v := ?v16) ?ho16 (by kernel_rfl) (by kernel_rfl) (by kernel_rfl) ?q16 ?y16 (by assumption) ?rest16
  case ho16 => (simp only [List.getElem?_toArray, List.getElem?_cons_succ, List.getElem?_cons_zero]; rfl)
  case q16 => exact fun _ _ _ h => h
  case y16 => (refine Or.inl ⟨by rfl, ?_⟩; intro w hSw; (try dsimp only at hSw); go_simp; try with_reducible rfl)
  try simp only [Act.put, List.setIfInBounds_toArray, List.set_cons_zero, List.set_cons_succ]
  refine wpAnyH_take (i := 17) (oi := ?o17) (v := ?v17) ?ho17 (by kernel_rfl) (by kernel_rfl) (by kernel_rfl) ?q17 ?y17 (by assumption) ?rest17
  case ho17 => (simp only [List.getElem?_toArray, List.getElem?_cons_succ, List.getElem?_cons_zero]; rfl)
  case q17 => exact fun _ _ _ h => h
  case y17 => (refine Or.inl ⟨by rfl, ?_⟩; intro w hSw; (try dsimp only at hSw); obtain ⟨qa, qb, qc⟩ := hSw.2.1.1.cells; go_simp; try with_reducible rfl)
  try simp only [Act.put, List.setIfInBounds_toArray, List.set_cons_zero, List.set_cons_succ]
  refine wpAnyH_take (i := 18) (oi := ?o18) (v := ?v18) ?ho18 (by kernel_rfl) (by kernel_rfl) (by kernel_rfl) ?q18 ?y18 (by assumption) ?rest18
  case ho18 => (simp only [List.getElem?_toArray, List.getElem?_cons_succ, List.getElem?_cons_zero]; rfl)
  case q18 => exact fun _ _ _ h => h
  case y18 => (refine Or.inl ⟨by rfl, ?_⟩; intro w hSw; (try dsimp only at hSw); go_simp; try with_reducible rfl)
  try simp only [Act.put, List.setIfInBounds_toArray, List.set_cons_zero, List.set_cons_succ]
  refine wpAnyH_take (i := 19) (oi := ?o19) (v := ?v19) ?ho19 (by kernel_rfl) (by kernel_rfl) (by kernel_rfl) ?q19 ?y19 (by assumption) ?rest19
  case ho19 => (simp only [List.getElem?_toArray, List.getElem?_cons_succ, List.getElem?_cons_zero]; rfl)
  case q19 => exact fun _ _ _ h => h
  case y19 => (refine Or.inl ⟨by rfl, ?_⟩; intro w hSw; (try dsimp only at hSw); obtain ⟨_, qd, qe, _⟩ := hSw.2.1.2.cells; go_simp; try with_reducible rfl)
  try simp only [Act.put, List.setIfInBounds_toArray, List.set_cons_zero, List.set_cons_succ]
  refine wpAnyH_take (i := 20) (oi := ?o20) (v := ?v20) ?ho20 (by kernel_rfl) (by kernel_rfl) (by kernel_rfl) ?q20 ?y20 (by assumption) ?rest20
  case ho20 => (simp only [List.getElem?_toArray, List.getElem?_cons_succ, List.getElem?_cons_zero]; rfl)
  case q20 => exact fun _ _ _ h => h
  case y20 => (refine Or.inl ⟨by rfl, ?_⟩; intro w hSw; (try dsimp only at hSw); go_simp; try with_reducible rfl)
  try simp only [Act.put, List.setIfInBounds_toArray, List.set_cons_zero, List.set_cons_succ]
  refine wpAnyH_take (i := 21) (oi := ?o21) (v := ?v21) ?ho21 (by kernel_rfl) (by kernel_rfl) (by kernel_rfl) ?q21 ?y21 (by assumption) ?rest21
  case ho21 => (simp only [List.getElem?_toArray, List.getElem?_cons_succ, List.getElem?_cons_zero]; rfl)
  case q21 => exact fun _ _ _ h => h
  case y21 => (refine Or.inl ⟨by rfl, ?_⟩; intro w hSw; (try dsimp only at hSw); obtain ⟨_, qd, qe, _⟩ := hSw.2.1.2.cells; go_simp; try with_reducible rfl)
  try simp only [Act.put, List.setIfInBounds_toArray, List.set_cons_zero, List.set_cons_succ]
  refine wpAnyH_ready (rs := [22]) (by kernel_rfl) (by simp) (AllReadyH.cons rfl (fun Kx hKx => ?_) AllReadyH.nil)
  go_simp
  refine (HRL.out _ _ _ ?_ HCC.out.1).mono ?_
  exact HQ1'.out
  rintro e v22 ⟨rfl, hq⟩
  obtain ⟨kq, hw⟩ := hq
  subst hw
  have hb22 := StepS.q hHeld ⟨kq, rfl⟩
  try go_wp2_with fail
  refine hKx.out _ _ hb22 (fun hHeld => ?_)
  clear hKx Kx
  try simp only [Act.put, List.setIfInBounds_toArray, List.set_cons_zero, List.set_cons_succ]
  refine wpAnyH_take (i := 23) (oi := ?o23) (v := ?v23) ?ho23 (by kernel_rfl) (by kernel_rfl) (by kernel_rfl) ?q23 ?y23 (by assumption) ?rest23
  case ho23 => (simp only [List.getElem?_toArray, List.getElem?_cons_succ, List.getElem?_cons_zero]; rfl)
  case q23 => exact fun _ _ _ h => h
  case y23 => (refine Or.inl ⟨by rfl, ?_⟩; intro w hSw; (try dsimp only at hSw); go_simp; try with_reducible rfl)
  try simp only [Act.put, List.setIfInBounds_toArray, List.set_cons_zero, List.set_cons_succ]
  refine wpAnyH_take (i := 24) (oi := ?o24) (v := ?v24) ?ho24 (by kernel_rfl) (by kernel_rfl) (by kernel_rfl) ?q24 ?y24 (by assumption) ?rest24
  case ho24 => (simp only [List.getElem?_toArray, List.getElem?_cons_succ, List.getElem?_cons_zero]; rfl)
  case q24 => exact fun _ _ _ h => h
  case y24 => (refine Or.inl ⟨by rfl, ?_⟩; intro w hSw; (try dsimp only at hSw); go_simp; try with_reducible rfl)
  try simp only [Act.put, List.setIfInBounds_toArray, List.set_cons_zero, List.set_cons_succ]
  refine wpAnyH_take (i := 25) (oi := ?o25) (v := ?v25) ?ho25 (by kernel_rfl) (by kernel_rfl) (by kernel_rfl) ?q25 ?y25 (by assumption) ?rest25
  case ho25 => (simp only [List.getElem?_toArray, List.getElem?_cons_succ, List.getElem?_cons_zero]; rfl)
  case q25 => exact fun _ _ _ h => h
  case y25 => (refine Or.inl ⟨by rfl, ?_⟩; intro w hSw; (try dsimp only at hSw); go_simp; try with_reducible rfl)
  try simp only [Act.put, List.setIfInBounds_toArray, List.set_cons_zero, List.set_cons_succ]
  refine wpAnyH_take (i := 26) (oi := ?o26) (v := ?v26) ?ho26 (by kernel_rfl) (by kernel_rfl) (by kernel_rfl) ?q26 ?y26 (by assumption) ?rest26
  case ho26 => (simp only [List.getElem?_toArray, List.getElem?_cons_succ, List.getElem?_cons_zero]; rfl)
  case q26 => exact fun _ _ _ h => h
  case y26 => (refine Or.inl ⟨by rfl, ?_⟩; intro w hSw; (try dsimp only at hSw); go_simp; try with_reducible rfl)
  try simp only [Act.put, List.setIfInBounds_toArray, List.set_cons_zero, List.set_cons_succ]
  refine wpAnyH_ready (rs := [27]) (by kernel_rfl) (by simp) (AllReadyH.cons rfl (fun Kx hKx => ?_) AllReadyH.nil)
  obtain ⟨⟨t0, t1, t2⟩, u0, u1, u2⟩ := three_cells (show ((W1.drew).drewN kq).heap[w.heap.size + 1 + 1]? = some (.cells #[.slice none 0 0, .slice none 0 0, .slice none 0 0] 36 (0, 0)) from HS1.out.2.2)
  have HH := Lib.hid hHeld
  clear hHeld
  go_simp
  refine hKx.out _ _ (HH.out.store HL.out _ _ _) (fun hHeld => ?_)
  clear hKx Kx
  refine wpAnyH_take (i := 28) (oi := ?o28) (v := ?v28) ?ho28 (by kernel_rfl) (by kernel_rfl) (by kernel_rfl) ?q28 ?y28 (by assumption) ?rest28
  case ho28 => (simp only [List.getElem?_toArray, List.getElem?_cons_succ, List.getElem?_cons_zero]; rfl)
  case q28 => exact fun _ _ _ h => h
  case y28 => (refine Or.inl ⟨by rfl, ?_⟩; intro w hSw; (try dsimp only at hSw); go_simp; try with_reducible rfl)
  try simp only [Act.put, List.setIfInBounds_toArray, List.set_cons_zero, List.set_cons_succ]
  refine wpAnyH_done (by kernel_rfl) ?_ _
  have HF := Lib.hid hHeld
  clear hHeld
  go_wp2
  refine bodyPost_ret (v := .tuple #[.agg #[.slice (some ⟨B1, 0, none⟩) (64 * K) c1, .slice (some ⟨B2, 0, none⟩) K c2, .slice (some ⟨B3, 0, none⟩) K c3], .bool true]) (by simp [results, Try.results14, go_sem, r0, r1, r2]) rfl ⟨_, rfl, HF.out.out HBD.out (HG.out.up (by omega))⟩
end Go.Proofs.Ytkgamoacjkmhkaa
