/- Layer 10: are both memories the same? -/
import Derived.Test.YtkgamoacjkmhkaaRamStepC
import Derived.Test.YtkgamoacjkmhkaaEach
namespace Go.Proofs.Ytkgamoacjkmhkaa
open Go.RowKit
set_option linter.unusedVariables false
set_option linter.unusedSimpArgs false

def SameS (w : World) (R P K : Nat) (a c d : Value) (b : Nat → Int) (wa : Nat → Bool) (g : Nat → Int) (w' : World) : Prop := Below w.heap.size w w' ∧ Box3 w' w.heap.size a c d ∧ IsRam w' R P K b wa g
theorem SameS.on {w : World} {R P K : Nat} {a c d : Value} {b : Nat → Int} {wa : Nat → Bool} {g : Nat → Int} {w1 w2 : World} (h : SameS w R P K a c d b wa g w1) (hb : Below w1.heap.size w1 w2) : SameS w R P K a c d b wa g w2 := by
  obtain ⟨h1, h2, h3⟩ := h
  have l1 := (Array.getElem?_eq_some_iff.1 h2).1
  exact ⟨h1.trans (hb.mono h1.size), h2.bar (Bar.of w1.heap.size hb) (by omega), h3.on hb⟩

set_option maxHeartbeats 4000000 in
theorem same10_any (R P K : Nat) (b : Nat → Int) (wa : Nat → Bool) (g : Nat → Int) (v : Value) (w : World) (hK1 : 1 ≤ K) (hK : K ≤ 1024) (hi : IsRam w R P K b wa g) (hr : RefV w P v K b wa g) :
    Calls Try.prog 15 #[.pointer (some ⟨R, 0, none⟩), v] w fun e w' => e = .returned (.bool true) ∧ Below w.heap.size w w' := by
  obtain ⟨B1, B2, B3, c1, c2, c3, rfl, hc, hp, q1, q2, q3⟩ := hr
  obtain ⟨W0, hW0⟩ : ∃ W0, W0 = w.alloc (.cells #[.slice (some ⟨B1, 0, none⟩) (64 * K) c1, .slice (some ⟨B2, 0, none⟩) K c2, .slice (some ⟨B3, 0, none⟩) K c3] 36) := ⟨_, rfl⟩
  have HW0 := Lib.hid hW0
  have hb0 : Below w.heap.size w W0 := by rw [hW0]; exact (Below.refl _ _).alloc (Nat.le_refl _) _
  have HS0 : Hid (SameS w R P K (.slice (some ⟨B1, 0, none⟩) (64 * K) c1) (.slice (some ⟨B2, 0, none⟩) K c2) (.slice (some ⟨B3, 0, none⟩) K c3) b wa g W0) := ⟨hb0, by rw [hW0]; exact heap_alloc_new _ _, hi.on hb0⟩
  have HQ1 := Lib.hid q1
  have HQ2 := Lib.hid q2
  have HQ3 := Lib.hid q3
  have HBY : Hid (∀ W, IsRam W R P K b wa g → Calls Try.prog 12 #[.pointer (some ⟨R, 0, none⟩)] W fun e w' => ∃ B, e = .returned (.slice (some ⟨B, 0, none⟩) (64 * K) (64 * K)) ∧ W.heap.size ≤ B ∧ RowB w' B (64 * K) b ∧ Below W.heap.size W w') := fun W h => bytes_any R P K _ _ _ W hK1 hK h
  have HSM : Hid (∀ W B, RowB W B (64 * K) b → RowB W B1 (64 * K) b → Calls Try.prog 11 #[.slice (some ⟨B, 0, none⟩) (64 * K) (64 * K), .slice (some ⟨B1, 0, none⟩) (64 * K) c1] W fun e w' => e = .returned (.bool true) ∧ Q W w') := fun W B h h' =>
    same_yes b B 0 B1 0 (64 * K) _ _ W (by unfold maxLen; omega) (fun i hi => by rw [Nat.zero_add]; exact h i hi) (fun i hi => by rw [Nat.zero_add]; exact h' i hi)
  have HW1 : Hid (∀ W : World, W.cell? ⟨R, 0, none⟩ = some (.slice (some ⟨P, 0, none⟩) K K) → Calls Try.prog 23 #[.pointer (some ⟨R, 0, none⟩), .int .i64 (-1)] W fun e w' => e = .returned (.bool false) ∧ w' = W) := fun W h => watched_no R P K (-1) W hK h (pgB_f (by omega))
  have HW2 : Hid (∀ W : World, W.cell? ⟨R, 0, none⟩ = some (.slice (some ⟨P, 0, none⟩) K K) → Calls Try.prog 23 #[.pointer (some ⟨R, 0, none⟩), .int .i64 (K : Int)] W fun e w' => e = .returned (.bool false) ∧ w' = W) := fun W h => watched_no R P K K W hK h (pgB_f (by omega))
  have HG1 : Hid (∀ W : World, W.cell? ⟨R, 0, none⟩ = some (.slice (some ⟨P, 0, none⟩) K K) → Calls Try.prog 24 #[.pointer (some ⟨R, 0, none⟩), .int .i64 (-1)] W fun e w' => e = .returned (.int .u64 0) ∧ w' = W) := fun W h => gen_no R P K (-1) W hK h (pgB_f (by omega))
  have HG2 : Hid (∀ W : World, W.cell? ⟨R, 0, none⟩ = some (.slice (some ⟨P, 0, none⟩) K K) → Calls Try.prog 24 #[.pointer (some ⟨R, 0, none⟩), .int .i64 (K : Int)] W fun e w' => e = .returned (.int .u64 0) ∧ w' = W) := fun W h => gen_no R P K K W hK h (pgB_f (by omega))
  clear hi hc hp q1 q2 q3 hW0 hb0
  go_enter Try.func15, Try.ntmps15
  go_wp2_with fail
  rw [← HW0.out]
  refine wp_region_held_drew (S := SameS w R P K (.slice (some ⟨B1, 0, none⟩) (64 * K) c1) (.slice (some ⟨B2, 0, none⟩) K c2) (.slice (some ⟨B3, 0, none⟩) K c3) b wa g) (by kernel_rfl) (HS0.out.on ((Below.refl _ _).drew)) (fun hHeld => ?_)
  refine wpAnyH_take (i := 0) (oi := ?o0_1) (v := ?v0_1) ?ho0_1 (by kernel_rfl) (by kernel_rfl) (by kernel_rfl) ?q0_1 ?y0_1 (by assumption) ?rest0_1
  case ho0_1 => (simp only [List.getElem?_toArray, List.getElem?_cons_succ, List.getElem?_cons_zero]; rfl)
  case q0_1 => exact fun _ _ _ h => h
  case y0_1 => (refine Or.inl ⟨by rfl, ?_⟩; intro w hSw; (try dsimp only at hSw); go_simp; try with_reducible rfl)
  try simp only [Act.put, List.setIfInBounds_toArray, List.set_cons_zero, List.set_cons_succ]
  refine wpAnyH_take (i := 2) (oi := ?o2_1) (v := ?v2_1) ?ho2_1 (by kernel_rfl) (by kernel_rfl) (by kernel_rfl) ?q2_1 ?y2_1 (by assumption) ?rest2_1
  case ho2_1 => (simp only [List.getElem?_toArray, List.getElem?_cons_succ, List.getElem?_cons_zero]; rfl)
  case q2_1 => exact fun _ _ _ h => h
  case y2_1 => (refine Or.inl ⟨by rfl, ?_⟩; intro w hSw; (try dsimp only at hSw); go_simp; try with_reducible rfl)
  try simp only [Act.put, List.setIfInBounds_toArray, List.set_cons_zero, List.set_cons_succ]
  refine wpAnyH_take (i := 3) (oi := ?o3_1) (v := ?v3_1) ?ho3_1 (by kernel_rfl) (by kernel_rfl) (by kernel_rfl) ?q3_1 ?y3_1 (by assumption) ?rest3_1
  case ho3_1 => (simp only [List.getElem?_toArray, List.getElem?_cons_succ, List.getElem?_cons_zero]; rfl)
  case q3_1 => exact fun _ _ _ h => h
  case y3_1 => (refine Or.inl ⟨by rfl, ?_⟩; intro w hSw; (try dsimp only at hSw); obtain ⟨qa, qb, qc⟩ := hSw.2.1.cells; go_simp; try with_reducible rfl)
  try simp only [Act.put, List.setIfInBounds_toArray, List.set_cons_zero, List.set_cons_succ]
  refine wpAnyH_ready (rs := [1]) (by kernel_rfl) (by simp) (AllReadyH.cons rfl (fun Kx hKx => ?_) AllReadyH.nil)
  go_simp
  refine (HBY.out _ hHeld.2.2).mono ?_
  rintro e v1 ⟨B, rfl, hB, hrow, hb⟩
  have hb1 := hHeld.on hb
  have HROW := Lib.hid hrow
  clear hB hrow hb
  try go_wp2_with fail
  refine hKx.out _ _ hb1 (fun hHeld => ?_)
  clear hKx Kx
  try simp only [Act.put, List.setIfInBounds_toArray, List.set_cons_zero, List.set_cons_succ]
  refine wpAnyH_ready (rs := [4]) (by kernel_rfl) (by simp) (AllReadyH.cons rfl (fun Kx hKx => ?_) AllReadyH.nil)
  go_simp
  refine (HSM.out _ _ HROW.out (HQ1.out.on hHeld.1)).mono ?_
  rintro e v4 ⟨rfl, hq⟩
  have hb4 := hHeld.on (hq.below _)
  clear hq
  try go_wp2_with fail
  refine hKx.out _ _ hb4 (fun hHeld => ?_)
  clear hKx Kx
  try simp only [Act.put, List.setIfInBounds_toArray, List.set_cons_zero, List.set_cons_succ]
  refine wpAnyH_take (i := 5) (oi := ?o5_1) (v := ?v5_1) ?ho5_1 (by kernel_rfl) (by kernel_rfl) (by kernel_rfl) ?q5_1 ?y5_1 (by assumption) ?rest5_1
  case ho5_1 => (simp only [List.getElem?_toArray, List.getElem?_cons_succ, List.getElem?_cons_zero]; rfl)
  case q5_1 => exact fun _ _ _ h => h
  case y5_1 => (refine Or.inl ⟨by rfl, ?_⟩; intro w hSw; (try dsimp only at hSw); go_simp; try with_reducible rfl)
  try simp only [Act.put, List.setIfInBounds_toArray, List.set_cons_zero, List.set_cons_succ]
  refine wpAnyH_take (i := 6) (oi := ?o6_1) (v := ?v6_1) ?ho6_1 (by kernel_rfl) (by kernel_rfl) (by kernel_rfl) ?q6_1 ?y6_1 (by assumption) ?rest6_1
  case ho6_1 => (simp only [List.getElem?_toArray, List.getElem?_cons_succ, List.getElem?_cons_zero]; rfl)
  case q6_1 => exact fun _ _ _ h => h
  case y6_1 => (refine Or.inl ⟨by rfl, ?_⟩; intro w hSw; (try dsimp only at hSw); go_simp; try with_reducible rfl)
  try simp only [Act.put, List.setIfInBounds_toArray, List.set_cons_zero, List.set_cons_succ]
  refine wpAnyH_take (i := 7) (oi := ?o7_1) (v := ?v7_1) ?ho7_1 (by kernel_rfl) (by kernel_rfl) (by kernel_rfl) ?q7_1 ?y7_1 (by assumption) ?rest7_1
  case ho7_1 => (simp only [List.getElem?_toArray, List.getElem?_cons_succ, List.getElem?_cons_zero]; rfl)
  case q7_1 => exact fun _ _ _ h => h
  case y7_1 => (refine Or.inl ⟨by rfl, ?_⟩; intro w hSw; (try dsimp only at hSw); go_simp; try with_reducible rfl)
  try simp only [Act.put, List.setIfInBounds_toArray, List.set_cons_zero, List.set_cons_succ]
  refine wpAnyH_ready (rs := [8]) (by kernel_rfl) (by simp) (AllReadyH.cons rfl (fun Kx hKx => ?_) AllReadyH.nil)
  go_simp
  refine (HW1.out _ hHeld.2.2.ptr).mono ?_
  rintro e w' ⟨rfl, hw⟩
  have hw := hw.symm
  subst hw
  try go_wp2_with fail
  refine hKx.out _ _ hHeld (fun hHeld => ?_)
  clear hKx Kx
  try simp only [Act.put, List.setIfInBounds_toArray, List.set_cons_zero, List.set_cons_succ]
  refine wpAnyH_take (i := 9) (oi := ?o9_1) (v := ?v9_1) ?ho9_1 (by kernel_rfl) (by kernel_rfl) (by kernel_rfl) ?q9_1 ?y9_1 (by assumption) ?rest9_1
  case ho9_1 => (simp only [List.getElem?_toArray, List.getElem?_cons_succ, List.getElem?_cons_zero]; rfl)
  case q9_1 => exact fun _ _ _ h => h
  case y9_1 => (refine Or.inl ⟨by rfl, ?_⟩; intro w hSw; (try dsimp only at hSw); go_simp; try with_reducible rfl)
  try simp only [Act.put, List.setIfInBounds_toArray, List.set_cons_zero, List.set_cons_succ]
  refine wpAnyH_take (i := 10) (oi := ?o10_1) (v := ?v10_1) ?ho10_1 (by kernel_rfl) (by kernel_rfl) (by kernel_rfl) ?q10_1 ?y10_1 (by assumption) ?rest10_1
  case ho10_1 => (simp only [List.getElem?_toArray, List.getElem?_cons_succ, List.getElem?_cons_zero]; rfl)
  case q10_1 => exact fun _ _ _ h => h
  case y10_1 => (refine Or.inl ⟨by rfl, ?_⟩; intro w hSw; (try dsimp only at hSw); go_simp; try with_reducible rfl)
  try simp only [Act.put, List.setIfInBounds_toArray, List.set_cons_zero, List.set_cons_succ]
  refine wpAnyH_take (i := 11) (oi := ?o11_1) (v := ?v11_1) ?ho11_1 (by kernel_rfl) (by kernel_rfl) (by kernel_rfl) ?q11_1 ?y11_1 (by assumption) ?rest11_1
  case ho11_1 => (simp only [List.getElem?_toArray, List.getElem?_cons_succ, List.getElem?_cons_zero]; rfl)
  case q11_1 => exact fun _ _ _ h => h
  case y11_1 => (refine Or.inl ⟨by rfl, ?_⟩; intro w hSw; (try dsimp only at hSw); go_simp; try with_reducible rfl)
  try simp only [Act.put, List.setIfInBounds_toArray, List.set_cons_zero, List.set_cons_succ]
  refine wpAnyH_take (i := 12) (oi := ?o12_1) (v := ?v12_1) ?ho12_1 (by kernel_rfl) (by kernel_rfl) (by kernel_rfl) ?q12_1 ?y12_1 (by assumption) ?rest12_1
  case ho12_1 => (simp only [List.getElem?_toArray, List.getElem?_cons_succ, List.getElem?_cons_zero]; rfl)
  case q12_1 => exact fun _ _ _ h => h
  case y12_1 => (refine Or.inl ⟨by rfl, ?_⟩; intro w hSw; (try dsimp only at hSw); go_simp; try with_reducible rfl)
  try simp only [Act.put, List.setIfInBounds_toArray, List.set_cons_zero, List.set_cons_succ]
  refine wpAnyH_take (i := 13) (oi := ?o13_1) (v := ?v13_1) ?ho13_1 (by kernel_rfl) (by kernel_rfl) (by kernel_rfl) ?q13_1 ?y13_1 (by assumption) ?rest13_1
  case ho13_1 => (simp only [List.getElem?_toArray, List.getElem?_cons_succ, List.getElem?_cons_zero]; rfl)
  case q13_1 => exact fun _ _ _ h => h
  case y13_1 => (refine Or.inl ⟨by rfl, ?_⟩; intro w hSw; (try dsimp only at hSw); obtain ⟨qa, qb, qc⟩ := hSw.2.1.cells; go_simp; try with_reducible rfl)
  try simp only [Act.put, List.setIfInBounds_toArray, List.set_cons_zero, List.set_cons_succ]
  refine wpAnyH_take (i := 14) (oi := ?o14_1) (v := ?v14_1) ?ho14_1 (by kernel_rfl) (by kernel_rfl) (by kernel_rfl) ?q14_1 ?y14_1 (by assumption) ?rest14_1
  case ho14_1 => (simp only [List.getElem?_toArray, List.getElem?_cons_succ, List.getElem?_cons_zero]; rfl)
  case q14_1 => exact fun _ _ _ h => h
  case y14_1 => (refine Or.inl ⟨by rfl, ?_⟩; intro w hSw; (try dsimp only at hSw); go_simp; try with_reducible rfl)
  try simp only [Act.put, List.setIfInBounds_toArray, List.set_cons_zero, List.set_cons_succ]
  refine wpAnyH_ready (rs := [15]) (by kernel_rfl) (by simp) (AllReadyH.cons rfl (fun Kx hKx => ?_) AllReadyH.nil)
  go_simp
  refine (HW2.out _ hHeld.2.2.ptr).mono ?_
  rintro e w' ⟨rfl, hw⟩
  have hw := hw.symm
  subst hw
  try go_wp2_with fail
  refine hKx.out _ _ hHeld (fun hHeld => ?_)
  clear hKx Kx
  try simp only [Act.put, List.setIfInBounds_toArray, List.set_cons_zero, List.set_cons_succ]
  refine wpAnyH_take (i := 16) (oi := ?o16_1) (v := ?v16_1) ?ho16_1 (by kernel_rfl) (by kernel_rfl) (by kernel_rfl) ?q16_1 ?y16_1 (by assumption) ?rest16_1
  case ho16_1 => (simp only [List.getElem?_toArray, List.getElem?_cons_succ, List.getElem?_cons_zero]; rfl)
  case q16_1 => exact fun _ _ _ h => h
  case y16_1 => (refine Or.inl ⟨by rfl, ?_⟩; intro w hSw; (try dsimp only at hSw); go_simp; try with_reducible rfl)
  try simp only [Act.put, List.setIfInBounds_toArray, List.set_cons_zero, List.set_cons_succ]
  refine wpAnyH_take (i := 17) (oi := ?o17_1) (v := ?v17_1) ?ho17_1 (by kernel_rfl) (by kernel_rfl) (by kernel_rfl) ?q17_1 ?y17_1 (by assumption) ?rest17_1
  case ho17_1 => (simp only [List.getElem?_toArray, List.getElem?_cons_succ, List.getElem?_cons_zero]; rfl)
  case q17_1 => exact fun _ _ _ h => h
  case y17_1 => (refine Or.inl ⟨by rfl, ?_⟩; intro w hSw; (try dsimp only at hSw); go_simp; try with_reducible rfl)
  try simp only [Act.put, List.setIfInBounds_toArray, List.set_cons_zero, List.set_cons_succ]
  refine wpAnyH_take (i := 18) (oi := ?o18_1) (v := ?v18_1) ?ho18_1 (by kernel_rfl) (by kernel_rfl) (by kernel_rfl) ?q18_1 ?y18_1 (by assumption) ?rest18_1
  case ho18_1 => (simp only [List.getElem?_toArray, List.getElem?_cons_succ, List.getElem?_cons_zero]; rfl)
  case q18_1 => exact fun _ _ _ h => h
  case y18_1 => (refine Or.inl ⟨by rfl, ?_⟩; intro w hSw; (try dsimp only at hSw); go_simp; try with_reducible rfl)
  try simp only [Act.put, List.setIfInBounds_toArray, List.set_cons_zero, List.set_cons_succ]
  refine wpAnyH_ready (rs := [19]) (by kernel_rfl) (by simp) (AllReadyH.cons rfl (fun Kx hKx => ?_) AllReadyH.nil)
  go_simp
  refine (HG1.out _ hHeld.2.2.ptr).mono ?_
  rintro e w' ⟨rfl, hw⟩
  have hw := hw.symm
  subst hw
  try go_wp2_with fail
  refine hKx.out _ _ hHeld (fun hHeld => ?_)
  clear hKx Kx
  try simp only [Act.put, List.setIfInBounds_toArray, List.set_cons_zero, List.set_cons_succ]
  refine wpAnyH_take (i := 20) (oi := ?o20_1) (v := ?v20_1) ?ho20_1 (by kernel_rfl) (by kernel_rfl) (by kernel_rfl) ?q20_1 ?y20_1 (by assumption) ?rest20_1
  case ho20_1 => (simp only [List.getElem?_toArray, List.getElem?_cons_succ, List.getElem?_cons_zero]; rfl)
  case q20_1 => exact fun _ _ _ h => h
  case y20_1 => (refine Or.inl ⟨by rfl, ?_⟩; intro w hSw; (try dsimp only at hSw); go_simp; try with_reducible rfl)
  try simp only [Act.put, List.setIfInBounds_toArray, List.set_cons_zero, List.set_cons_succ]
  refine wpAnyH_take (i := 21) (oi := ?o21_1) (v := ?v21_1) ?ho21_1 (by kernel_rfl) (by kernel_rfl) (by kernel_rfl) ?q21_1 ?y21_1 (by assumption) ?rest21_1
  case ho21_1 => (simp only [List.getElem?_toArray, List.getElem?_cons_succ, List.getElem?_cons_zero]; rfl)
  case q21_1 => exact fun _ _ _ h => h
  case y21_1 => (refine Or.inl ⟨by rfl, ?_⟩; intro w hSw; (try dsimp only at hSw); go_simp; try with_reducible rfl)
  try simp only [Act.put, List.setIfInBounds_toArray, List.set_cons_zero, List.set_cons_succ]
  refine wpAnyH_take (i := 22) (oi := ?o22_1) (v := ?v22_1) ?ho22_1 (by kernel_rfl) (by kernel_rfl) (by kernel_rfl) ?q22_1 ?y22_1 (by assumption) ?rest22_1
  case ho22_1 => (simp only [List.getElem?_toArray, List.getElem?_cons_succ, List.getElem?_cons_zero]; rfl)
  case q22_1 => exact fun _ _ _ h => h
  case y22_1 => (refine Or.inl ⟨by rfl, ?_⟩; intro w hSw; (try dsimp only at hSw); go_simp; try with_reducible rfl)
  try simp only [Act.put, List.setIfInBounds_toArray, List.set_cons_zero, List.set_cons_succ]
  refine wpAnyH_take (i := 23) (oi := ?o23_1) (v := ?v23_1) ?ho23_1 (by kernel_rfl) (by kernel_rfl) (by kernel_rfl) ?q23_1 ?y23_1 (by assumption) ?rest23_1
  case ho23_1 => (simp only [List.getElem?_toArray, List.getElem?_cons_succ, List.getElem?_cons_zero]; rfl)
  case q23_1 => exact fun _ _ _ h => h
  case y23_1 => (refine Or.inl ⟨by rfl, ?_⟩; intro w hSw; (try dsimp only at hSw); go_simp; try with_reducible rfl)
  try simp only [Act.put, List.setIfInBounds_toArray, List.set_cons_zero, List.set_cons_succ]
  refine wpAnyH_take (i := 24) (oi := ?o24_1) (v := ?v24_1) ?ho24_1 (by kernel_rfl) (by kernel_rfl) (by kernel_rfl) ?q24_1 ?y24_1 (by assumption) ?rest24_1
  case ho24_1 => (simp only [List.getElem?_toArray, List.getElem?_cons_succ, List.getElem?_cons_zero]; rfl)
  case q24_1 => exact fun _ _ _ h => h
  case y24_1 => (refine Or.inl ⟨by rfl, ?_⟩; intro w hSw; (try dsimp only at hSw); go_simp; try with_reducible rfl)
  try simp only [Act.put, List.setIfInBounds_toArray, List.set_cons_zero, List.set_cons_succ]
  refine wpAnyH_take (i := 25) (oi := ?o25_1) (v := ?v25_1) ?ho25_1 (by kernel_rfl) (by kernel_rfl) (by kernel_rfl) ?q25_1 ?y25_1 (by assumption) ?rest25_1
  case ho25_1 => (simp only [List.getElem?_toArray, List.getElem?_cons_succ, List.getElem?_cons_zero]; rfl)
  case q25_1 => exact fun _ _ _ h => h
  case y25_1 => (refine Or.inl ⟨by rfl, ?_⟩; intro w hSw; (try dsimp only at hSw); obtain ⟨qa, qb, qc⟩ := hSw.2.1.cells; go_simp; try with_reducible rfl)
  try simp only [Act.put, List.setIfInBounds_toArray, List.set_cons_zero, List.set_cons_succ]
  refine wpAnyH_take (i := 26) (oi := ?o26_1) (v := ?v26_1) ?ho26_1 (by kernel_rfl) (by kernel_rfl) (by kernel_rfl) ?q26_1 ?y26_1 (by assumption) ?rest26_1
  case ho26_1 => (simp only [List.getElem?_toArray, List.getElem?_cons_succ, List.getElem?_cons_zero]; rfl)
  case q26_1 => exact fun _ _ _ h => h
  case y26_1 => (refine Or.inl ⟨by rfl, ?_⟩; intro w hSw; (try dsimp only at hSw); go_simp; try with_reducible rfl)
  try simp only [Act.put, List.setIfInBounds_toArray, List.set_cons_zero, List.set_cons_succ]
  refine wpAnyH_ready (rs := [27]) (by kernel_rfl) (by simp) (AllReadyH.cons rfl (fun Kx hKx => ?_) AllReadyH.nil)
  go_simp
  refine (HG2.out _ hHeld.2.2.ptr).mono ?_
  rintro e w' ⟨rfl, hw⟩
  have hw := hw.symm
  subst hw
  try go_wp2_with fail
  refine hKx.out _ _ hHeld (fun hHeld => ?_)
  clear hKx Kx
  try simp only [Act.put, List.setIfInBounds_toArray, List.set_cons_zero, List.set_cons_succ]
  refine wpAnyH_take (i := 28) (oi := ?o28_1) (v := ?v28_1) ?ho28_1 (by kernel_rfl) (by kernel_rfl) (by kernel_rfl) ?q28_1 ?y28_1 (by assumption) ?rest28_1
  case ho28_1 => (simp only [List.getElem?_toArray, List.getElem?_cons_succ, List.getElem?_cons_zero]; rfl)
  case q28_1 => exact fun _ _ _ h => h
  case y28_1 => (refine Or.inl ⟨by rfl, ?_⟩; intro w hSw; (try dsimp only at hSw); go_simp; try with_reducible rfl)
  try simp only [Act.put, List.setIfInBounds_toArray, List.set_cons_zero, List.set_cons_succ]
  refine wpAnyH_take (i := 29) (oi := ?o29_1) (v := ?v29_1) ?ho29_1 (by kernel_rfl) (by kernel_rfl) (by kernel_rfl) ?q29_1 ?y29_1 (by assumption) ?rest29_1
  case ho29_1 => (simp only [List.getElem?_toArray, List.getElem?_cons_succ, List.getElem?_cons_zero]; rfl)
  case q29_1 => exact fun _ _ _ h => h
  case y29_1 => (refine Or.inl ⟨by rfl, ?_⟩; intro w hSw; (try dsimp only at hSw); go_simp; try with_reducible rfl)
  try simp only [Act.put, List.setIfInBounds_toArray, List.set_cons_zero, List.set_cons_succ]
  refine wpAnyH_done (by kernel_rfl) ?_ _
  have HF := Lib.hid hHeld
  clear hHeld
  generalize v4.drew = v5 at *
  go_wp2
  go_loopw [5] (fun i wr => ∃ k : Nat, k ≤ K ∧ i = .int .i64 k ∧ SameS w R P K (.slice (some ⟨B1, 0, none⟩) (64 * K) c1) (.slice (some ⟨B2, 0, none⟩) K c2) (.slice (some ⟨B3, 0, none⟩) K c3) b wa g wr) (fun i _ => K - (intOf i).toNat)
  case atStart => exact ⟨0, Nat.zero_le _, rfl, HF.out⟩
  case round =>
    obtain ⟨k, hk, rfl, hb⟩ := hrel
    have HB := Lib.hid hb
    clear hb
    obtain ⟨qa, qb, qc⟩ := HB.out.2.1.cells
    by_cases hlt : k < K
    · have HC2 : Hid (∀ w', Below w.heap.size w w' → w'.cell? ⟨B2, k, none⟩ = some (.bool (wa k))) := fun w' hb => (HQ2.out.on hb) k hlt
      have HC3 : Hid (∀ w', Below w.heap.size w w' → w'.cell? ⟨B3, k, none⟩ = some (.int .u64 (g k))) := fun w' hb => (HQ3.out.on hb) k hlt
      have HWA : Hid (∀ W, IsRam W R P K b wa g → Calls Try.prog 23 #[.pointer (some ⟨R, 0, none⟩), .int .i64 k] W fun e w' => e = .returned (.bool (wa k)) ∧ w' = W) := fun W h => watched_any R P K b wa g k W hK h hlt
      have HGA : Hid (∀ W, IsRam W R P K b wa g → Calls Try.prog 24 #[.pointer (some ⟨R, 0, none⟩), .int .i64 k] W fun e w' => e = .returned (.int .u64 (g k)) ∧ w' = W) := fun W h => gen_any R P K b wa g k W hK h hlt
      have hi0 : (0 : Int) ≤ (k : Int) := by omega
      have hiK : (k : Int) < K := by omega
      generalize hy : wa k = y at *
      generalize hz : g k = z at *
      clear hy hz
      go_wp2_with fail
      refine wp_region_held_drew (S := SameS w R P K (.slice (some ⟨B1, 0, none⟩) (64 * K) c1) (.slice (some ⟨B2, 0, none⟩) K c2) (.slice (some ⟨B3, 0, none⟩) K c3) b wa g) (by kernel_rfl) (HB.out.on ((Below.refl _ _).drew)) (fun hHeld => ?_)
      refine wpAnyH_take (i := 0) (oi := ?o0_6) (v := ?v0_6) ?ho0_6 (by kernel_rfl) (by kernel_rfl) (by kernel_rfl) ?q0_6 ?y0_6 (by assumption) ?rest0_6
      case ho0_6 => (simp only [List.getElem?_toArray, List.getElem?_cons_succ, List.getElem?_cons_zero]; rfl)
      case q0_6 => exact fun _ _ _ h => h
      case y0_6 => (refine Or.inl ⟨by rfl, ?_⟩; intro w hSw; (try dsimp only at hSw); go_simp; try with_reducible rfl)
      try simp only [Act.put, List.setIfInBounds_toArray, List.set_cons_zero, List.set_cons_succ]
      refine wpAnyH_take (i := 1) (oi := ?o1_6) (v := ?v1_6) ?ho1_6 (by kernel_rfl) (by kernel_rfl) (by kernel_rfl) ?q1_6 ?y1_6 (by assumption) ?rest1_6
      case ho1_6 => (simp only [List.getElem?_toArray, List.getElem?_cons_succ, List.getElem?_cons_zero]; rfl)
      case q1_6 => exact fun _ _ _ h => h
      case y1_6 => (refine Or.inl ⟨by rfl, ?_⟩; intro w hSw; (try dsimp only at hSw); go_simp; try with_reducible rfl)
      try simp only [Act.put, List.setIfInBounds_toArray, List.set_cons_zero, List.set_cons_succ]
      refine wpAnyH_take (i := 3) (oi := ?o3_6) (v := ?v3_6) ?ho3_6 (by kernel_rfl) (by kernel_rfl) (by kernel_rfl) ?q3_6 ?y3_6 (by assumption) ?rest3_6
      case ho3_6 => (simp only [List.getElem?_toArray, List.getElem?_cons_succ, List.getElem?_cons_zero]; rfl)
      case q3_6 => exact fun _ _ _ h => h
      case y3_6 => (refine Or.inl ⟨by rfl, ?_⟩; intro w hSw; (try dsimp only at hSw); go_simp; try with_reducible rfl)
      try simp only [Act.put, List.setIfInBounds_toArray, List.set_cons_zero, List.set_cons_succ]
      refine wpAnyH_take (i := 4) (oi := ?o4_6) (v := ?v4_6) ?ho4_6 (by kernel_rfl) (by kernel_rfl) (by kernel_rfl) ?q4_6 ?y4_6 (by assumption) ?rest4_6
      case ho4_6 => (simp only [List.getElem?_toArray, List.getElem?_cons_succ, List.getElem?_cons_zero]; rfl)
      case q4_6 => exact fun _ _ _ h => h
      case y4_6 => (refine Or.inl ⟨by rfl, ?_⟩; intro w hSw; (try dsimp only at hSw); obtain ⟨qa, qb, qc⟩ := hSw.2.1.cells; go_simp; try with_reducible rfl)
      try simp only [Act.put, List.setIfInBounds_toArray, List.set_cons_zero, List.set_cons_succ]
      refine wpAnyH_take (i := 5) (oi := ?o5_6) (v := ?v5_6) ?ho5_6 (by kernel_rfl) (by kernel_rfl) (by kernel_rfl) ?q5_6 ?y5_6 (by assumption) ?rest5_6
      case ho5_6 => (simp only [List.getElem?_toArray, List.getElem?_cons_succ, List.getElem?_cons_zero]; rfl)
      case q5_6 => exact fun _ _ _ h => h
      case y5_6 => (refine Or.inl ⟨by rfl, ?_⟩; intro w hSw; (try dsimp only at hSw); go_simp; try with_reducible rfl)
      try simp only [Act.put, List.setIfInBounds_toArray, List.set_cons_zero, List.set_cons_succ]
      refine wpAnyH_take (i := 6) (oi := ?o6_6) (v := ?v6_6) ?ho6_6 (by kernel_rfl) (by kernel_rfl) (by kernel_rfl) ?q6_6 ?y6_6 (by assumption) ?rest6_6
      case ho6_6 => (simp only [List.getElem?_toArray, List.getElem?_cons_succ, List.getElem?_cons_zero]; rfl)
      case q6_6 => exact fun _ _ _ h => h
      case y6_6 => (refine Or.inl ⟨by rfl, ?_⟩; intro w hSw; (try dsimp only at hSw); go_simp; try with_reducible rfl)
      try simp only [Act.put, List.setIfInBounds_toArray, List.set_cons_zero, List.set_cons_succ]
      refine wpAnyH_take (i := 7) (oi := ?o7_6) (v := ?v7_6) ?ho7_6 (by kernel_rfl) (by kernel_rfl) (by kernel_rfl) ?q7_6 ?y7_6 (by assumption) ?rest7_6
      case ho7_6 => (simp only [List.getElem?_toArray, List.getElem?_cons_succ, List.getElem?_cons_zero]; rfl)
      case q7_6 => exact fun _ _ _ h => h
      case y7_6 => (refine Or.inl ⟨by rfl, ?_⟩; intro w hSw; (try dsimp only at hSw); have qd := HC2.out _ hSw.1; go_simp; try with_reducible rfl)
      try simp only [Act.put, List.setIfInBounds_toArray, List.set_cons_zero, List.set_cons_succ]
      refine wpAnyH_ready (rs := [2]) (by kernel_rfl) (by simp) (AllReadyH.cons rfl (fun Kx hKx => ?_) AllReadyH.nil)
      go_simp
      refine (HWA.out _ hHeld.2.2).mono ?_
      rintro e w' ⟨rfl, hw⟩
      have hw := hw.symm
      subst hw
      try go_wp2_with fail
      refine hKx.out _ _ hHeld (fun hHeld => ?_)
      clear hKx Kx
      try simp only [Act.put, List.setIfInBounds_toArray, List.set_cons_zero, List.set_cons_succ]
      refine wpAnyH_take (i := 8) (oi := ?o8_6) (v := ?v8_6) ?ho8_6 (by kernel_rfl) (by kernel_rfl) (by kernel_rfl) ?q8_6 ?y8_6 (by assumption) ?rest8_6
      case ho8_6 => (simp only [List.getElem?_toArray, List.getElem?_cons_succ, List.getElem?_cons_zero]; rfl)
      case q8_6 => exact fun _ _ _ h => h
      case y8_6 => (refine Or.inl ⟨by rfl, ?_⟩; intro w hSw; (try dsimp only at hSw); go_simp; try with_reducible rfl)
      try simp only [Act.put, List.setIfInBounds_toArray, List.set_cons_zero, List.set_cons_succ]
      refine wpAnyH_take (i := 9) (oi := ?o9_6) (v := ?v9_6) ?ho9_6 (by kernel_rfl) (by kernel_rfl) (by kernel_rfl) ?q9_6 ?y9_6 (by assumption) ?rest9_6
      case ho9_6 => (simp only [List.getElem?_toArray, List.getElem?_cons_succ, List.getElem?_cons_zero]; rfl)
      case q9_6 => exact fun _ _ _ h => h
      case y9_6 => (refine Or.inl ⟨by rfl, ?_⟩; intro w hSw; (try dsimp only at hSw); go_simp; try with_reducible rfl)
      try simp only [Act.put, List.setIfInBounds_toArray, List.set_cons_zero, List.set_cons_succ]
      refine wpAnyH_take (i := 10) (oi := ?o10_6) (v := ?v10_6) ?ho10_6 (by kernel_rfl) (by kernel_rfl) (by kernel_rfl) ?q10_6 ?y10_6 (by assumption) ?rest10_6
      case ho10_6 => (simp only [List.getElem?_toArray, List.getElem?_cons_succ, List.getElem?_cons_zero]; rfl)
      case q10_6 => exact fun _ _ _ h => h
      case y10_6 => (refine Or.inl ⟨by rfl, ?_⟩; intro w hSw; (try dsimp only at hSw); go_simp; try with_reducible rfl)
      try simp only [Act.put, List.setIfInBounds_toArray, List.set_cons_zero, List.set_cons_succ]
      refine wpAnyH_take (i := 11) (oi := ?o11_6) (v := ?v11_6) ?ho11_6 (by kernel_rfl) (by kernel_rfl) (by kernel_rfl) ?q11_6 ?y11_6 (by assumption) ?rest11_6
      case ho11_6 => (simp only [List.getElem?_toArray, List.getElem?_cons_succ, List.getElem?_cons_zero]; rfl)
      case q11_6 => exact fun _ _ _ h => h
      case y11_6 => (refine Or.inl ⟨by rfl, ?_⟩; intro w hSw; (try dsimp only at hSw); go_simp; try with_reducible rfl)
      try simp only [Act.put, List.setIfInBounds_toArray, List.set_cons_zero, List.set_cons_succ]
      refine wpAnyH_take (i := 13) (oi := ?o13_6) (v := ?v13_6) ?ho13_6 (by kernel_rfl) (by kernel_rfl) (by kernel_rfl) ?q13_6 ?y13_6 (by assumption) ?rest13_6
      case ho13_6 => (simp only [List.getElem?_toArray, List.getElem?_cons_succ, List.getElem?_cons_zero]; rfl)
      case q13_6 => exact fun _ _ _ h => h
      case y13_6 => (refine Or.inl ⟨by rfl, ?_⟩; intro w hSw; (try dsimp only at hSw); go_simp; try with_reducible rfl)
      try simp only [Act.put, List.setIfInBounds_toArray, List.set_cons_zero, List.set_cons_succ]
      refine wpAnyH_take (i := 14) (oi := ?o14_6) (v := ?v14_6) ?ho14_6 (by kernel_rfl) (by kernel_rfl) (by kernel_rfl) ?q14_6 ?y14_6 (by assumption) ?rest14_6
      case ho14_6 => (simp only [List.getElem?_toArray, List.getElem?_cons_succ, List.getElem?_cons_zero]; rfl)
      case q14_6 => exact fun _ _ _ h => h
      case y14_6 => (refine Or.inl ⟨by rfl, ?_⟩; intro w hSw; (try dsimp only at hSw); obtain ⟨qa, qb, qc⟩ := hSw.2.1.cells; go_simp; try with_reducible rfl)
      try simp only [Act.put, List.setIfInBounds_toArray, List.set_cons_zero, List.set_cons_succ]
      refine wpAnyH_take (i := 15) (oi := ?o15_6) (v := ?v15_6) ?ho15_6 (by kernel_rfl) (by kernel_rfl) (by kernel_rfl) ?q15_6 ?y15_6 (by assumption) ?rest15_6
      case ho15_6 => (simp only [List.getElem?_toArray, List.getElem?_cons_succ, List.getElem?_cons_zero]; rfl)
      case q15_6 => exact fun _ _ _ h => h
      case y15_6 => (refine Or.inl ⟨by rfl, ?_⟩; intro w hSw; (try dsimp only at hSw); go_simp; try with_reducible rfl)
      try simp only [Act.put, List.setIfInBounds_toArray, List.set_cons_zero, List.set_cons_succ]
      refine wpAnyH_take (i := 16) (oi := ?o16_6) (v := ?v16_6) ?ho16_6 (by kernel_rfl) (by kernel_rfl) (by kernel_rfl) ?q16_6 ?y16_6 (by assumption) ?rest16_6
      case ho16_6 => (simp only [List.getElem?_toArray, List.getElem?_cons_succ, List.getElem?_cons_zero]; rfl)
      case q16_6 => exact fun _ _ _ h => h
      case y16_6 => (refine Or.inl ⟨by rfl, ?_⟩; intro w hSw; (try dsimp only at hSw); go_simp; try with_reducible rfl)
      try simp only [Act.put, List.setIfInBounds_toArray, List.set_cons_zero, List.set_cons_succ]
      refine wpAnyH_take (i := 17) (oi := ?o17_6) (v := ?v17_6) ?ho17_6 (by kernel_rfl) (by kernel_rfl) (by kernel_rfl) ?q17_6 ?y17_6 (by assumption) ?rest17_6
      case ho17_6 => (simp only [List.getElem?_toArray, List.getElem?_cons_succ, List.getElem?_cons_zero]; rfl)
      case q17_6 => exact fun _ _ _ h => h
      case y17_6 => (refine Or.inl ⟨by rfl, ?_⟩; intro w hSw; (try dsimp only at hSw); have qd := HC3.out _ hSw.1; go_simp; try with_reducible rfl)
      try simp only [Act.put, List.setIfInBounds_toArray, List.set_cons_zero, List.set_cons_succ]
      refine wpAnyH_ready (rs := [12]) (by kernel_rfl) (by simp) (AllReadyH.cons rfl (fun Kx hKx => ?_) AllReadyH.nil)
      go_simp
      refine (HGA.out _ hHeld.2.2).mono ?_
      rintro e w' ⟨rfl, hw⟩
      have hw := hw.symm
      subst hw
      try go_wp2_with fail
      refine hKx.out _ _ hHeld (fun hHeld => ?_)
      clear hKx Kx
      try simp only [Act.put, List.setIfInBounds_toArray, List.set_cons_zero, List.set_cons_succ]
      refine wpAnyH_take (i := 18) (oi := ?o18_6) (v := ?v18_6) ?ho18_6 (by kernel_rfl) (by kernel_rfl) (by kernel_rfl) ?q18_6 ?y18_6 (by assumption) ?rest18_6
      case ho18_6 => (simp only [List.getElem?_toArray, List.getElem?_cons_succ, List.getElem?_cons_zero]; rfl)
      case q18_6 => exact fun _ _ _ h => h
      case y18_6 => (refine Or.inl ⟨by rfl, ?_⟩; intro w hSw; (try dsimp only at hSw); go_simp; try with_reducible rfl)
      try simp only [Act.put, List.setIfInBounds_toArray, List.set_cons_zero, List.set_cons_succ]
      refine wpAnyH_take (i := 19) (oi := ?o19_6) (v := ?v19_6) ?ho19_6 (by kernel_rfl) (by kernel_rfl) (by kernel_rfl) ?q19_6 ?y19_6 (by assumption) ?rest19_6
      case ho19_6 => (simp only [List.getElem?_toArray, List.getElem?_cons_succ, List.getElem?_cons_zero]; rfl)
      case q19_6 => exact fun _ _ _ h => h
      case y19_6 => (refine Or.inl ⟨by rfl, ?_⟩; intro w hSw; (try dsimp only at hSw); go_simp; try with_reducible rfl)
      try simp only [Act.put, List.setIfInBounds_toArray, List.set_cons_zero, List.set_cons_succ]
      refine wpAnyH_done (by kernel_rfl) ?_ _
    
      have HF2 := Lib.hid hHeld
      clear hHeld
      go_wp2
      go_roundw
      case rel => exact ⟨k + 1, by omega, by go_num, HF2.out⟩
      case measure => simp [intOf]; omega
    · go_wp2
      go_ret
      exact ⟨rfl, HB.out.1⟩
end Go.Proofs.Ytkgamoacjkmhkaa
