/- Layer 17: the walk of TrapHears. -/
import Derived.Test.YtlmmebgicanmhaaTrapAwake
import Derived.Test.YtlmmebgicanmhaaTrapEndM
import Derived.Test.YtlmmebgicanmhaaTrapHearR
import Derived.OpenShut
import Derived.Test.YtlmmebgicanmhaaPhase
namespace Go.Proofs.Ytlmmebgicanmhaa
open Go.RowKit
set_option linter.unusedVariables false
set_option linter.unusedSimpArgs false
namespace trapHears

theorem heard_wakes {s i c : Int} (h : heardB s i c = true) : wakesB i c = true := by
  unfold heardB at h
  rw [Bool.and_eq_true] at h
  exact h.2

set_option maxHeartbeats 6000000 in
set_option maxRecDepth 100000 in
theorem walk0 (K : Nat → Int) (calls : Int) (w : World) (hk : KsB K) (hq : W32 calls) :
    Calls Try.prog 5 #[.agg #[.int .u32 (K 0), .int .u32 (K 1), .int .u32 (K 2), .int .u32 (K 3), .int .u32 (K 4), .int .u32 (K 5), .int .u32 (K 6)], .int .u32 calls] w fun e w' => e = .returned (.bool true) ∧ Below w.heap.size w w' := by
  have HG : Hid (∀ W : World, Calls Try.prog 14 #[.agg #[.int .u32 (K 0), .int .u32 (K 1), .int .u32 (K 2), .int .u32 (K 3), .int .u32 (K 4), .int .u32 (K 5), .int .u32 (K 6)], .int .u32 calls] W fun e w' => e = .returned (.tuple #[.int .u32 (heardZ (K 0) (K 1) calls), .bool (heardB (K 0) (K 1) calls)]) ∧ Below W.heap.size W w') := fun W => gheard_any K calls W hk hq
  have HR : Hid (∀ W : World, Calls Try.prog 15 #[.agg #[.int .u32 (K 0), .int .u32 (K 1), .int .u32 (K 2), .int .u32 (K 3), .int .u32 (K 4), .int .u32 (K 5), .int .u32 (K 6)], .int .u32 calls] W fun e w' => e = .returned (.tuple #[.int .u32 (heardZ (K 0) (K 1) calls), .bool (heardB (K 0) (K 1) calls)]) ∧ Below W.heap.size W w') := fun W => rheard17_any K calls W hk hq
  have HV : Hid (∀ W : World, Calls Try.prog 16 #[.agg #[.int .u32 (K 0), .int .u32 (K 1), .int .u32 (K 2), .int .u32 (K 3), .int .u32 (K 4), .int .u32 (K 5), .int .u32 (K 6)], .int .u32 calls] W fun e w' => e = .returned (.bool (wakesB (K 1) calls)) ∧ Below W.heap.size W w') := fun W => gwakes_any K calls W hk hq
  have HU : Hid (∀ W : World, Calls Try.prog 17 #[.agg #[.int .u32 (K 0), .int .u32 (K 1), .int .u32 (K 2), .int .u32 (K 3), .int .u32 (K 4), .int .u32 (K 5), .int .u32 (K 6)], .int .u32 calls] W fun e w' => e = .returned (.bool (wakesB (K 1) calls)) ∧ Below W.heap.size W w') := fun W => rwakes17_any K calls W hk hq
  have hb : heardB (K 0) (K 1) calls = true → wakesB (K 1) calls = true := heard_wakes
  clear hk hq
  generalize heardZ (K 0) (K 1) calls = z at *
  generalize heardB (K 0) (K 1) calls = b at *
  generalize wakesB (K 1) calls = a at *
  obtain ⟨W0, hW0⟩ : ∃ W0, W0 = w.alloc (.cells #[.int .u32 (K 0), .int .u32 (K 1), .int .u32 (K 2), .int .u32 (K 3), .int .u32 (K 4), .int .u32 (K 5), .int .u32 (K 6)] 24) := ⟨_, rfl⟩
  have HA0 : Hid (IsKs W0 w.heap.size K ∧ Below w.heap.size w W0) := by rw [hW0]; exact ⟨ks_new w K, (Below.refl _ _).alloc (Nat.le_refl _) _⟩
  have HW0 := Lib.hid hW0
  clear hW0
  have hab : (b = false) ∨ (b = true ∧ a = true) := by cases b <;> simp_all
  clear hb
  rcases hab with rfl | ⟨rfl, rfl⟩
  · go_enter Try.func5, Try.ntmps5
    go_wp2_with fail
    rw [← HW0.out]
    refine (HG.out _).mono ?_
    rintro e w1 ⟨rfl, hb1⟩
    have ha1 : IsKs w1 w.heap.size K ∧ Below w.heap.size w w1 := ⟨HA0.out.1.on hb1, below_call HA0.out.2 hb1⟩
    have HA1 := Lib.hid ha1
    obtain ⟨⟨q0, q1, q2, q3, q4, q5, q6⟩, -⟩ := seven_cells ha1.1
    clear ha1 hb1
    go_wp2_with fail
    clear q0 q1 q2 q3 q4 q5 q6
    refine (HR.out _).mono ?_
    rintro e w2 ⟨rfl, hb2⟩
    have ha2 : IsKs w2 w.heap.size K ∧ Below w.heap.size w w2 := ⟨HA1.out.1.on hb2, below_call HA1.out.2 hb2⟩
    have HA2 := Lib.hid ha2
    clear ha2 hb2
    have HD2 : Hid (IsKs w2.drew w.heap.size K) := HA2.out.1
    have HB2 : Hid (Below w.heap.size w w2.drew) := HA2.out.2.drew
    clear HA2
    go_wp2_with fail
    refine wp_region_held_drew (S := fun w' => Below w2.drew.heap.size w2.drew w') (by kernel_rfl) (Below.refl _ _) (fun hHeld => ?_)
    refine wpAnyH_take (i := 0) (oi := ?o0_3f) (v := ?v0_3f) ?ho0_3f (by kernel_rfl) (by kernel_rfl) (by kernel_rfl) ?q0_3f ?y0_3f (by assumption) ?rest0_3f
    case ho0_3f => (simp only [List.getElem?_toArray, List.getElem?_cons_succ, List.getElem?_cons_zero]; rfl)
    case q0_3f => exact fun _ _ _ h => h
    case y0_3f => (refine Or.inl ⟨by rfl, ?_⟩; intro w hSw; (try dsimp only at hSw); go_simp; try with_reducible rfl)
    try simp only [Act.put, List.setIfInBounds_toArray, List.set_cons_zero, List.set_cons_succ]
    refine wpAnyH_take (i := 1) (oi := ?o1_3f) (v := ?v1_3f) ?ho1_3f (by kernel_rfl) (by kernel_rfl) (by kernel_rfl) ?q1_3f ?y1_3f (by assumption) ?rest1_3f
    case ho1_3f => (simp only [List.getElem?_toArray, List.getElem?_cons_succ, List.getElem?_cons_zero]; rfl)
    case q1_3f => exact fun _ _ _ h => h
    case y1_3f => (refine Or.inl ⟨by rfl, ?_⟩; intro w hSw; (try dsimp only at hSw); go_simp; try with_reducible rfl)
    try simp only [Act.put, List.setIfInBounds_toArray, List.set_cons_zero, List.set_cons_succ]
    refine wpAnyH_take (i := 2) (oi := ?o2_3f) (v := ?v2_3f) ?ho2_3f (by kernel_rfl) (by kernel_rfl) (by kernel_rfl) ?q2_3f ?y2_3f (by assumption) ?rest2_3f
    case ho2_3f => (simp only [List.getElem?_toArray, List.getElem?_cons_succ, List.getElem?_cons_zero]; rfl)
    case q2_3f => exact fun _ _ _ h => h
    case y2_3f => (refine Or.inl ⟨by rfl, ?_⟩; intro w hSw; (try dsimp only at hSw); go_simp; try with_reducible rfl)
    try simp only [Act.put, List.setIfInBounds_toArray, List.set_cons_zero, List.set_cons_succ]
    refine wpAnyH_take (i := 3) (oi := ?o3_3f) (v := ?v3_3f) ?ho3_3f (by kernel_rfl) (by kernel_rfl) (by kernel_rfl) ?q3_3f ?y3_3f (by assumption) ?rest3_3f
    case ho3_3f => (simp only [List.getElem?_toArray, List.getElem?_cons_succ, List.getElem?_cons_zero]; rfl)
    case q3_3f => exact fun _ _ _ h => h
    case y3_3f => (refine Or.inl ⟨by rfl, ?_⟩; intro w hSw; (try dsimp only at hSw); go_simp; try with_reducible rfl)
    try simp only [Act.put, List.setIfInBounds_toArray, List.set_cons_zero, List.set_cons_succ]
    refine wpAnyH_take (i := 4) (oi := ?o4_3f) (v := ?v4_3f) ?ho4_3f (by kernel_rfl) (by kernel_rfl) (by kernel_rfl) ?q4_3f ?y4_3f (by assumption) ?rest4_3f
    case ho4_3f => (simp only [List.getElem?_toArray, List.getElem?_cons_succ, List.getElem?_cons_zero]; rfl)
    case q4_3f => exact fun _ _ _ h => h
    case y4_3f => (refine Or.inl ⟨by rfl, ?_⟩; intro w hSw; (try dsimp only at hSw); go_simp; try with_reducible rfl)
    try simp only [Act.put, List.setIfInBounds_toArray, List.set_cons_zero, List.set_cons_succ]
    refine wpAnyH_take (i := 5) (oi := ?o5_3f) (v := ?v5_3f) ?ho5_3f (by kernel_rfl) (by kernel_rfl) (by kernel_rfl) ?q5_3f ?y5_3f (by assumption) ?rest5_3f
    case ho5_3f => (simp only [List.getElem?_toArray, List.getElem?_cons_succ, List.getElem?_cons_zero]; rfl)
    case q5_3f => exact fun _ _ _ h => h
    case y5_3f => (refine Or.inl ⟨by rfl, ?_⟩; intro w hSw; (try dsimp only at hSw); go_simp; try with_reducible rfl)
    try simp only [Act.put, List.setIfInBounds_toArray, List.set_cons_zero, List.set_cons_succ]
    refine wpAnyH_take (i := 6) (oi := ?o6_3f) (v := ?v6_3f) ?ho6_3f (by kernel_rfl) (by kernel_rfl) (by kernel_rfl) ?q6_3f ?y6_3f (by assumption) ?rest6_3f
    case ho6_3f => (simp only [List.getElem?_toArray, List.getElem?_cons_succ, List.getElem?_cons_zero]; rfl)
    case q6_3f => exact fun _ _ _ h => h
    case y6_3f => (refine Or.inl ⟨by rfl, ?_⟩; intro w hSw; (try dsimp only at hSw); go_simp; try with_reducible rfl)
    try simp only [Act.put, List.setIfInBounds_toArray, List.set_cons_zero, List.set_cons_succ]
    refine wpAnyH_take (i := 7) (oi := ?o7_3f) (v := ?v7_3f) ?ho7_3f (by kernel_rfl) (by kernel_rfl) (by kernel_rfl) ?q7_3f ?y7_3f (by assumption) ?rest7_3f
    case ho7_3f => (simp only [List.getElem?_toArray, List.getElem?_cons_succ, List.getElem?_cons_zero]; rfl)
    case q7_3f => exact fun _ _ _ h => h
    case y7_3f => (refine Or.inl ⟨by rfl, ?_⟩; intro w hSw; (try dsimp only at hSw); go_simp; try with_reducible rfl)
    try simp only [Act.put, List.setIfInBounds_toArray, List.set_cons_zero, List.set_cons_succ]
    refine wpAnyH_take (i := 8) (oi := ?o8_3f) (v := ?v8_3f) ?ho8_3f (by kernel_rfl) (by kernel_rfl) (by kernel_rfl) ?q8_3f ?y8_3f (by assumption) ?rest8_3f
    case ho8_3f => (simp only [List.getElem?_toArray, List.getElem?_cons_succ, List.getElem?_cons_zero]; rfl)
    case q8_3f => exact fun _ _ _ h => h
    case y8_3f => (refine Or.inl ⟨by rfl, ?_⟩; intro w hSw; (try dsimp only at hSw); go_simp; try with_reducible rfl)
    try simp only [Act.put, List.setIfInBounds_toArray, List.set_cons_zero, List.set_cons_succ]
    refine wpAnyH_take (i := 9) (oi := ?o9_3f) (v := ?v9_3f) ?ho9_3f (by kernel_rfl) (by kernel_rfl) (by kernel_rfl) ?q9_3f ?y9_3f (by assumption) ?rest9_3f
    case ho9_3f => (simp only [List.getElem?_toArray, List.getElem?_cons_succ, List.getElem?_cons_zero]; rfl)
    case q9_3f => exact fun _ _ _ h => h
    case y9_3f => (refine Or.inl ⟨by rfl, ?_⟩; intro w hSw; (try dsimp only at hSw); obtain ⟨⟨q0, q1, q2, q3, q4, q5, q6⟩, -⟩ := seven_cells (HD2.out.on hSw); go_simp; try with_reducible rfl)
    try simp only [Act.put, List.setIfInBounds_toArray, List.set_cons_zero, List.set_cons_succ]
    refine wpAnyH_take (i := 10) (oi := ?o10_3f) (v := ?v10_3f) ?ho10_3f (by kernel_rfl) (by kernel_rfl) (by kernel_rfl) ?q10_3f ?y10_3f (by assumption) ?rest10_3f
    case ho10_3f => (simp only [List.getElem?_toArray, List.getElem?_cons_succ, List.getElem?_cons_zero]; rfl)
    case q10_3f => exact fun _ _ _ h => h
    case y10_3f => (refine Or.inl ⟨by rfl, ?_⟩; intro w hSw; (try dsimp only at hSw); go_simp; try with_reducible rfl)
    try simp only [Act.put, List.setIfInBounds_toArray, List.set_cons_zero, List.set_cons_succ]
    refine wpAnyH_take (i := 12) (oi := ?o12_3f) (v := ?v12_3f) ?ho12_3f (by kernel_rfl) (by kernel_rfl) (by kernel_rfl) ?q12_3f ?y12_3f (by assumption) ?rest12_3f
    case ho12_3f => (simp only [List.getElem?_toArray, List.getElem?_cons_succ, List.getElem?_cons_zero]; rfl)
    case q12_3f => exact fun _ _ _ h => h
    case y12_3f => (refine Or.inl ⟨by rfl, ?_⟩; intro w hSw; (try dsimp only at hSw); obtain ⟨⟨q0, q1, q2, q3, q4, q5, q6⟩, -⟩ := seven_cells (HD2.out.on hSw); go_simp; try with_reducible rfl)
    try simp only [Act.put, List.setIfInBounds_toArray, List.set_cons_zero, List.set_cons_succ]
    refine wpAnyH_take (i := 13) (oi := ?o13_3f) (v := ?v13_3f) ?ho13_3f (by kernel_rfl) (by kernel_rfl) (by kernel_rfl) ?q13_3f ?y13_3f (by assumption) ?rest13_3f
    case ho13_3f => (simp only [List.getElem?_toArray, List.getElem?_cons_succ, List.getElem?_cons_zero]; rfl)
    case q13_3f => exact fun _ _ _ h => h
    case y13_3f => (refine Or.inl ⟨by rfl, ?_⟩; intro w hSw; (try dsimp only at hSw); go_simp; try with_reducible rfl)
    try simp only [Act.put, List.setIfInBounds_toArray, List.set_cons_zero, List.set_cons_succ]
    refine wpAnyH_ready (rs := [11]) (by kernel_rfl) (by simp) (AllReadyH.cons rfl (fun Kx hKx => ?_) AllReadyH.nil)
    go_simp
    refine (HV.out _).mono ?_
    rintro e v11 ⟨rfl, hb11⟩
    have HX11 : Hid (IsKs v11 w.heap.size K) := HD2.out.on hb11
    have HY11 : Hid (Below w.heap.size w v11) := below_call HB2.out hb11
    try go_wp2_with fail
    refine hKx.out _ _ hb11 (fun hHeld => ?_)
    clear hKx Kx hHeld
    try simp only [Act.put, List.setIfInBounds_toArray, List.set_cons_zero, List.set_cons_succ]
    refine wpAnyH_shift (S' := fun w' => Below v11.heap.size v11 w') (fun _ h => Below.trans hb11 (h.mono hb11.size)) _ _ _ _ ?_
    have hHeld : (fun w' => Below v11.heap.size v11 w') v11 := Below.refl _ _
    refine wpAnyH_ready (rs := [14]) (by kernel_rfl) (by simp) (AllReadyH.cons rfl (fun Kx hKx => ?_) AllReadyH.nil)
    go_simp
    refine (HU.out _).mono ?_
    rintro e v14 ⟨rfl, hb14⟩
    have HX14 : Hid (IsKs v14 w.heap.size K) := HX11.out.on hb14
    have HY14 : Hid (Below w.heap.size w v14) := below_call HY11.out hb14
    try go_wp2_with fail
    refine hKx.out _ _ hb14 (fun hHeld => ?_)
    clear hKx Kx hHeld
    try simp only [Act.put, List.setIfInBounds_toArray, List.set_cons_zero, List.set_cons_succ]
    refine wpAnyH_shift (S' := fun w' => Below v14.heap.size v14 w') (fun _ h => Below.trans hb14 (h.mono hb14.size)) _ _ _ _ ?_
    have hHeld : (fun w' => Below v14.heap.size v14 w') v14 := Below.refl _ _
    refine wpAnyH_take (i := 15) (oi := ?o15_3f) (v := ?v15_3f) ?ho15_3f (by kernel_rfl) (by kernel_rfl) (by kernel_rfl) ?q15_3f ?y15_3f (by assumption) ?rest15_3f
    case ho15_3f => (simp only [List.getElem?_toArray, List.getElem?_cons_succ, List.getElem?_cons_zero]; rfl)
    case q15_3f => exact fun _ _ _ h => h
    case y15_3f => (refine Or.inl ⟨by rfl, ?_⟩; intro w hSw; (try dsimp only at hSw); go_simp; try with_reducible rfl)
    try simp only [Act.put, List.setIfInBounds_toArray, List.set_cons_zero, List.set_cons_succ]
    refine wpAnyH_take (i := 16) (oi := ?o16_3f) (v := ?v16_3f) ?ho16_3f (by kernel_rfl) (by kernel_rfl) (by kernel_rfl) ?q16_3f ?y16_3f (by assumption) ?rest16_3f
    case ho16_3f => (simp only [List.getElem?_toArray, List.getElem?_cons_succ, List.getElem?_cons_zero]; rfl)
    case q16_3f => exact fun _ _ _ h => h
    case y16_3f => (refine Or.inl ⟨by rfl, ?_⟩; intro w hSw; (try dsimp only at hSw); go_simp; try with_reducible rfl)
    try simp only [Act.put, List.setIfInBounds_toArray, List.set_cons_zero, List.set_cons_succ]
    refine wpAnyH_take (i := 17) (oi := ?o17_3f) (v := ?v17_3f) ?ho17_3f (by kernel_rfl) (by kernel_rfl) (by kernel_rfl) ?q17_3f ?y17_3f (by assumption) ?rest17_3f
    case ho17_3f => (simp only [List.getElem?_toArray, List.getElem?_cons_succ, List.getElem?_cons_zero]; rfl)
    case q17_3f => exact fun _ _ _ h => h
    case y17_3f => (refine Or.inl ⟨by rfl, ?_⟩; intro w hSw; (try dsimp only at hSw); go_simp; try with_reducible rfl)
    try simp only [Act.put, List.setIfInBounds_toArray, List.set_cons_zero, List.set_cons_succ]
    refine wpAnyH_take (i := 18) (oi := ?o18_3f) (v := ?v18_3f) ?ho18_3f (by kernel_rfl) (by kernel_rfl) (by kernel_rfl) ?q18_3f ?y18_3f (by assumption) ?rest18_3f
    case ho18_3f => (simp only [List.getElem?_toArray, List.getElem?_cons_succ, List.getElem?_cons_zero]; rfl)
    case q18_3f => exact fun _ _ _ h => h
    case y18_3f => (refine Or.inl ⟨by rfl, ?_⟩; intro w hSw; (try dsimp only at hSw); go_simp; try with_reducible rfl)
    try simp only [Act.put, List.setIfInBounds_toArray, List.set_cons_zero, List.set_cons_succ]
    refine wpAnyH_take (i := 19) (oi := ?o19_3f) (v := ?v19_3f) ?ho19_3f (by kernel_rfl) (by kernel_rfl) (by kernel_rfl) ?q19_3f ?y19_3f (by assumption) ?rest19_3f
    case ho19_3f => (simp only [List.getElem?_toArray, List.getElem?_cons_succ, List.getElem?_cons_zero]; rfl)
    case q19_3f => exact fun _ _ _ h => h
    case y19_3f => (refine Or.inl ⟨by rfl, ?_⟩; intro w hSw; (try dsimp only at hSw); go_simp; try with_reducible rfl)
    try simp only [Act.put, List.setIfInBounds_toArray, List.set_cons_zero, List.set_cons_succ]
    refine wpAnyH_take (i := 20) (oi := ?o20_3f) (v := ?v20_3f) ?ho20_3f (by kernel_rfl) (by kernel_rfl) (by kernel_rfl) ?q20_3f ?y20_3f (by assumption) ?rest20_3f
    case ho20_3f => (simp only [List.getElem?_toArray, List.getElem?_cons_succ, List.getElem?_cons_zero]; rfl)
    case q20_3f => exact fun _ _ _ h => h
    case y20_3f => (refine Or.inl ⟨by rfl, ?_⟩; intro w hSw; (try dsimp only at hSw); go_simp; try with_reducible rfl)
    try simp only [Act.put, List.setIfInBounds_toArray, List.set_cons_zero, List.set_cons_succ]
    refine wpAnyH_take (i := 21) (oi := ?o21_3f) (v := undef) ?ho21_3f (by kernel_rfl) (by kernel_rfl) (by kernel_rfl) ?q21_3f ?y21_3f (by assumption) ?rest21_3f
    case ho21_3f => (simp only [List.getElem?_toArray, List.getElem?_cons_succ, List.getElem?_cons_zero]; rfl)
    case q21_3f => exact fun _ _ _ h => h
    case y21_3f => exact Or.inr ⟨by rfl, rfl⟩
    try simp only [Act.put, List.setIfInBounds_toArray, List.set_cons_zero, List.set_cons_succ]
    refine wpAnyH_take (i := 22) (oi := ?o22_3f) (v := undef) ?ho22_3f (by kernel_rfl) (by kernel_rfl) (by kernel_rfl) ?q22_3f ?y22_3f (by assumption) ?rest22_3f
    case ho22_3f => (simp only [List.getElem?_toArray, List.getElem?_cons_succ, List.getElem?_cons_zero]; rfl)
    case q22_3f => exact fun _ _ _ h => h
    case y22_3f => exact Or.inr ⟨by rfl, rfl⟩
    try simp only [Act.put, List.setIfInBounds_toArray, List.set_cons_zero, List.set_cons_succ]
    refine wpAnyH_take (i := 23) (oi := ?o23_3f) (v := undef) ?ho23_3f (by kernel_rfl) (by kernel_rfl) (by kernel_rfl) ?q23_3f ?y23_3f (by assumption) ?rest23_3f
    case ho23_3f => (simp only [List.getElem?_toArray, List.getElem?_cons_succ, List.getElem?_cons_zero]; rfl)
    case q23_3f => exact fun _ _ _ h => h
    case y23_3f => exact Or.inr ⟨by rfl, rfl⟩
    try simp only [Act.put, List.setIfInBounds_toArray, List.set_cons_zero, List.set_cons_succ]
    refine wpAnyH_take (i := 24) (oi := ?o24_3f) (v := ?v24_3f) ?ho24_3f (by kernel_rfl) (by kernel_rfl) (by kernel_rfl) ?q24_3f ?y24_3f (by assumption) ?rest24_3f
    case ho24_3f => (simp only [List.getElem?_toArray, List.getElem?_cons_succ, List.getElem?_cons_zero]; rfl)
    case q24_3f => exact fun _ _ _ h => h
    case y24_3f => (refine Or.inl ⟨by rfl, ?_⟩; intro w hSw; (try dsimp only at hSw); go_simp; try with_reducible rfl)
    try simp only [Act.put, List.setIfInBounds_toArray, List.set_cons_zero, List.set_cons_succ]
    refine wpAnyH_take (i := 25) (oi := ?o25_3f) (v := ?v25_3f) ?ho25_3f (by kernel_rfl) (by kernel_rfl) (by kernel_rfl) ?q25_3f ?y25_3f (by assumption) ?rest25_3f
    case ho25_3f => (simp only [List.getElem?_toArray, List.getElem?_cons_succ, List.getElem?_cons_zero]; rfl)
    case q25_3f => exact fun _ _ _ h => h
    case y25_3f => (refine Or.inl ⟨by rfl, ?_⟩; intro w hSw; (try dsimp only at hSw); go_simp; try with_reducible rfl)
    try simp only [Act.put, List.setIfInBounds_toArray, List.set_cons_zero, List.set_cons_succ]
    refine wpAnyH_take (i := 26) (oi := ?o26_3f) (v := ?v26_3f) ?ho26_3f (by kernel_rfl) (by kernel_rfl) (by kernel_rfl) ?q26_3f ?y26_3f (by assumption) ?rest26_3f
    case ho26_3f => (simp only [List.getElem?_toArray, List.getElem?_cons_succ, List.getElem?_cons_zero]; rfl)
    case q26_3f => exact fun _ _ _ h => h
    case y26_3f => (refine Or.inl ⟨by rfl, ?_⟩; intro w hSw; (try dsimp only at hSw); go_simp; try with_reducible rfl)
    try simp only [Act.put, List.setIfInBounds_toArray, List.set_cons_zero, List.set_cons_succ]
    refine wpAnyH_ready (rs := [27]) (by kernel_rfl) (by simp) (AllReadyH.cons rfl (fun Kx hKx => ?_) AllReadyH.nil)
    go_simp
    refine (awake17_any _).mono ?_
    rintro e v27 ⟨rfl, hb27⟩
    have HY27 : Hid (Below w.heap.size w v27) := below_call HY14.out hb27
    try go_wp2_with fail
    refine hKx.out _ _ hb27 (fun hHeld => ?_)
    clear hKx Kx hHeld
    try simp only [Act.put, List.setIfInBounds_toArray, List.set_cons_zero, List.set_cons_succ]
    refine wpAnyH_shift (S' := fun w' => Below v27.heap.size v27 w') (fun _ h => Below.trans hb27 (h.mono hb27.size)) _ _ _ _ ?_
    have hHeld : (fun w' => Below v27.heap.size v27 w') v27 := Below.refl _ _
    refine wpAnyH_take (i := 28) (oi := ?o28_3f) (v := ?v28_3f) ?ho28_3f (by kernel_rfl) (by kernel_rfl) (by kernel_rfl) ?q28_3f ?y28_3f (by assumption) ?rest28_3f
    case ho28_3f => (simp only [List.getElem?_toArray, List.getElem?_cons_succ, List.getElem?_cons_zero]; rfl)
    case q28_3f => exact fun _ _ _ h => h
    case y28_3f => (refine Or.inl ⟨by rfl, ?_⟩; intro w hSw; (try dsimp only at hSw); go_simp; try with_reducible rfl)
    try simp only [Act.put, List.setIfInBounds_toArray, List.set_cons_zero, List.set_cons_succ]
    refine wpAnyH_take (i := 29) (oi := ?o29_3f) (v := ?v29_3f) ?ho29_3f (by kernel_rfl) (by kernel_rfl) (by kernel_rfl) ?q29_3f ?y29_3f (by assumption) ?rest29_3f
    case ho29_3f => (simp only [List.getElem?_toArray, List.getElem?_cons_succ, List.getElem?_cons_zero]; rfl)
    case q29_3f => exact fun _ _ _ h => h
    case y29_3f => (refine Or.inl ⟨by rfl, ?_⟩; intro w hSw; (try dsimp only at hSw); go_simp; try with_reducible rfl)
    try simp only [Act.put, List.setIfInBounds_toArray, List.set_cons_zero, List.set_cons_succ]
    refine wpAnyH_done (by kernel_rfl) ?_ _
    go_wp2
    go_ret
    exact ⟨rfl, HY27.out⟩
  · go_enter Try.func5, Try.ntmps5
    go_wp2_with fail
    rw [← HW0.out]
    refine (HG.out _).mono ?_
    rintro e w1 ⟨rfl, hb1⟩
    have ha1 : IsKs w1 w.heap.size K ∧ Below w.heap.size w w1 := ⟨HA0.out.1.on hb1, below_call HA0.out.2 hb1⟩
    have HA1 := Lib.hid ha1
    obtain ⟨⟨q0, q1, q2, q3, q4, q5, q6⟩, -⟩ := seven_cells ha1.1
    clear ha1 hb1
    go_wp2_with fail
    clear q0 q1 q2 q3 q4 q5 q6
    refine (HR.out _).mono ?_
    rintro e w2 ⟨rfl, hb2⟩
    have ha2 : IsKs w2 w.heap.size K ∧ Below w.heap.size w w2 := ⟨HA1.out.1.on hb2, below_call HA1.out.2 hb2⟩
    have HA2 := Lib.hid ha2
    clear ha2 hb2
    have HD2 : Hid (IsKs w2.drew w.heap.size K) := HA2.out.1
    have HB2 : Hid (Below w.heap.size w w2.drew) := HA2.out.2.drew
    clear HA2
    go_wp2_with fail
    refine wp_region_held_drew (S := fun w' => Below w2.drew.heap.size w2.drew w') (by kernel_rfl) (Below.refl _ _) (fun hHeld => ?_)
    refine wpAnyH_take (i := 0) (oi := ?o0_3t) (v := ?v0_3t) ?ho0_3t (by kernel_rfl) (by kernel_rfl) (by kernel_rfl) ?q0_3t ?y0_3t (by assumption) ?rest0_3t
    case ho0_3t => (simp only [List.getElem?_toArray, List.getElem?_cons_succ, List.getElem?_cons_zero]; rfl)
    case q0_3t => exact fun _ _ _ h => h
    case y0_3t => (refine Or.inl ⟨by rfl, ?_⟩; intro w hSw; (try dsimp only at hSw); go_simp; try with_reducible rfl)
    try simp only [Act.put, List.setIfInBounds_toArray, List.set_cons_zero, List.set_cons_succ]
    refine wpAnyH_take (i := 1) (oi := ?o1_3t) (v := ?v1_3t) ?ho1_3t (by kernel_rfl) (by kernel_rfl) (by kernel_rfl) ?q1_3t ?y1_3t (by assumption) ?rest1_3t
    case ho1_3t => (simp only [List.getElem?_toArray, List.getElem?_cons_succ, List.getElem?_cons_zero]; rfl)
    case q1_3t => exact fun _ _ _ h => h
    case y1_3t => (refine Or.inl ⟨by rfl, ?_⟩; intro w hSw; (try dsimp only at hSw); go_simp; try with_reducible rfl)
    try simp only [Act.put, List.setIfInBounds_toArray, List.set_cons_zero, List.set_cons_succ]
    refine wpAnyH_take (i := 2) (oi := ?o2_3t) (v := ?v2_3t) ?ho2_3t (by kernel_rfl) (by kernel_rfl) (by kernel_rfl) ?q2_3t ?y2_3t (by assumption) ?rest2_3t
    case ho2_3t => (simp only [List.getElem?_toArray, List.getElem?_cons_succ, List.getElem?_cons_zero]; rfl)
    case q2_3t => exact fun _ _ _ h => h
    case y2_3t => (refine Or.inl ⟨by rfl, ?_⟩; intro w hSw; (try dsimp only at hSw); go_simp; try with_reducible rfl)
    try simp only [Act.put, List.setIfInBounds_toArray, List.set_cons_zero, List.set_cons_succ]
    refine wpAnyH_take (i := 3) (oi := ?o3_3t) (v := ?v3_3t) ?ho3_3t (by kernel_rfl) (by kernel_rfl) (by kernel_rfl) ?q3_3t ?y3_3t (by assumption) ?rest3_3t
    case ho3_3t => (simp only [List.getElem?_toArray, List.getElem?_cons_succ, List.getElem?_cons_zero]; rfl)
    case q3_3t => exact fun _ _ _ h => h
    case y3_3t => (refine Or.inl ⟨by rfl, ?_⟩; intro w hSw; (try dsimp only at hSw); go_simp; try with_reducible rfl)
    try simp only [Act.put, List.setIfInBounds_toArray, List.set_cons_zero, List.set_cons_succ]
    refine wpAnyH_take (i := 4) (oi := ?o4_3t) (v := ?v4_3t) ?ho4_3t (by kernel_rfl) (by kernel_rfl) (by kernel_rfl) ?q4_3t ?y4_3t (by assumption) ?rest4_3t
    case ho4_3t => (simp only [List.getElem?_toArray, List.getElem?_cons_succ, List.getElem?_cons_zero]; rfl)
    case q4_3t => exact fun _ _ _ h => h
    case y4_3t => (refine Or.inl ⟨by rfl, ?_⟩; intro w hSw; (try dsimp only at hSw); go_simp; try with_reducible rfl)
    try simp only [Act.put, List.setIfInBounds_toArray, List.set_cons_zero, List.set_cons_succ]
    refine wpAnyH_take (i := 5) (oi := ?o5_3t) (v := ?v5_3t) ?ho5_3t (by kernel_rfl) (by kernel_rfl) (by kernel_rfl) ?q5_3t ?y5_3t (by assumption) ?rest5_3t
    case ho5_3t => (simp only [List.getElem?_toArray, List.getElem?_cons_succ, List.getElem?_cons_zero]; rfl)
    case q5_3t => exact fun _ _ _ h => h
    case y5_3t => (refine Or.inl ⟨by rfl, ?_⟩; intro w hSw; (try dsimp only at hSw); go_simp; try with_reducible rfl)
    try simp only [Act.put, List.setIfInBounds_toArray, List.set_cons_zero, List.set_cons_succ]
    refine wpAnyH_take (i := 6) (oi := ?o6_3t) (v := ?v6_3t) ?ho6_3t (by kernel_rfl) (by kernel_rfl) (by kernel_rfl) ?q6_3t ?y6_3t (by assumption) ?rest6_3t
    case ho6_3t => (simp only [List.getElem?_toArray, List.getElem?_cons_succ, List.getElem?_cons_zero]; rfl)
    case q6_3t => exact fun _ _ _ h => h
    case y6_3t => (refine Or.inl ⟨by rfl, ?_⟩; intro w hSw; (try dsimp only at hSw); go_simp; try with_reducible rfl)
    try simp only [Act.put, List.setIfInBounds_toArray, List.set_cons_zero, List.set_cons_succ]
    refine wpAnyH_take (i := 7) (oi := ?o7_3t) (v := ?v7_3t) ?ho7_3t (by kernel_rfl) (by kernel_rfl) (by kernel_rfl) ?q7_3t ?y7_3t (by assumption) ?rest7_3t
    case ho7_3t => (simp only [List.getElem?_toArray, List.getElem?_cons_succ, List.getElem?_cons_zero]; rfl)
    case q7_3t => exact fun _ _ _ h => h
    case y7_3t => (refine Or.inl ⟨by rfl, ?_⟩; intro w hSw; (try dsimp only at hSw); go_simp; try with_reducible rfl)
    try simp only [Act.put, List.setIfInBounds_toArray, List.set_cons_zero, List.set_cons_succ]
    refine wpAnyH_take (i := 8) (oi := ?o8_3t) (v := ?v8_3t) ?ho8_3t (by kernel_rfl) (by kernel_rfl) (by kernel_rfl) ?q8_3t ?y8_3t (by assumption) ?rest8_3t
    case ho8_3t => (simp only [List.getElem?_toArray, List.getElem?_cons_succ, List.getElem?_cons_zero]; rfl)
    case q8_3t => exact fun _ _ _ h => h
    case y8_3t => (refine Or.inl ⟨by rfl, ?_⟩; intro w hSw; (try dsimp only at hSw); go_simp; try with_reducible rfl)
    try simp only [Act.put, List.setIfInBounds_toArray, List.set_cons_zero, List.set_cons_succ]
    refine wpAnyH_take (i := 9) (oi := ?o9_3t) (v := ?v9_3t) ?ho9_3t (by kernel_rfl) (by kernel_rfl) (by kernel_rfl) ?q9_3t ?y9_3t (by assumption) ?rest9_3t
    case ho9_3t => (simp only [List.getElem?_toArray, List.getElem?_cons_succ, List.getElem?_cons_zero]; rfl)
    case q9_3t => exact fun _ _ _ h => h
    case y9_3t => (refine Or.inl ⟨by rfl, ?_⟩; intro w hSw; (try dsimp only at hSw); obtain ⟨⟨q0, q1, q2, q3, q4, q5, q6⟩, -⟩ := seven_cells (HD2.out.on hSw); go_simp; try with_reducible rfl)
    try simp only [Act.put, List.setIfInBounds_toArray, List.set_cons_zero, List.set_cons_succ]
    refine wpAnyH_take (i := 10) (oi := ?o10_3t) (v := ?v10_3t) ?ho10_3t (by kernel_rfl) (by kernel_rfl) (by kernel_rfl) ?q10_3t ?y10_3t (by assumption) ?rest10_3t
    case ho10_3t => (simp only [List.getElem?_toArray, List.getElem?_cons_succ, List.getElem?_cons_zero]; rfl)
    case q10_3t => exact fun _ _ _ h => h
    case y10_3t => (refine Or.inl ⟨by rfl, ?_⟩; intro w hSw; (try dsimp only at hSw); go_simp; try with_reducible rfl)
    try simp only [Act.put, List.setIfInBounds_toArray, List.set_cons_zero, List.set_cons_succ]
    refine wpAnyH_take (i := 12) (oi := ?o12_3t) (v := ?v12_3t) ?ho12_3t (by kernel_rfl) (by kernel_rfl) (by kernel_rfl) ?q12_3t ?y12_3t (by assumption) ?rest12_3t
    case ho12_3t => (simp only [List.getElem?_toArray, List.getElem?_cons_succ, List.getElem?_cons_zero]; rfl)
    case q12_3t => exact fun _ _ _ h => h
    case y12_3t => (refine Or.inl ⟨by rfl, ?_⟩; intro w hSw; (try dsimp only at hSw); obtain ⟨⟨q0, q1, q2, q3, q4, q5, q6⟩, -⟩ := seven_cells (HD2.out.on hSw); go_simp; try with_reducible rfl)
    try simp only [Act.put, List.setIfInBounds_toArray, List.set_cons_zero, List.set_cons_succ]
    refine wpAnyH_take (i := 13) (oi := ?o13_3t) (v := ?v13_3t) ?ho13_3t (by kernel_rfl) (by kernel_rfl) (by kernel_rfl) ?q13_3t ?y13_3t (by assumption) ?rest13_3t
    case ho13_3t => (simp only [List.getElem?_toArray, List.getElem?_cons_succ, List.getElem?_cons_zero]; rfl)
    case q13_3t => exact fun _ _ _ h => h
    case y13_3t => (refine Or.inl ⟨by rfl, ?_⟩; intro w hSw; (try dsimp only at hSw); go_simp; try with_reducible rfl)
    try simp only [Act.put, List.setIfInBounds_toArray, List.set_cons_zero, List.set_cons_succ]
    refine wpAnyH_ready (rs := [11]) (by kernel_rfl) (by simp) (AllReadyH.cons rfl (fun Kx hKx => ?_) AllReadyH.nil)
    go_simp
    refine (HV.out _).mono ?_
    rintro e v11 ⟨rfl, hb11⟩
    have HX11 : Hid (IsKs v11 w.heap.size K) := HD2.out.on hb11
    have HY11 : Hid (Below w.heap.size w v11) := below_call HB2.out hb11
    try go_wp2_with fail
    refine hKx.out _ _ hb11 (fun hHeld => ?_)
    clear hKx Kx hHeld
    try simp only [Act.put, List.setIfInBounds_toArray, List.set_cons_zero, List.set_cons_succ]
    refine wpAnyH_shift (S' := fun w' => Below v11.heap.size v11 w') (fun _ h => Below.trans hb11 (h.mono hb11.size)) _ _ _ _ ?_
    have hHeld : (fun w' => Below v11.heap.size v11 w') v11 := Below.refl _ _
    refine wpAnyH_ready (rs := [14]) (by kernel_rfl) (by simp) (AllReadyH.cons rfl (fun Kx hKx => ?_) AllReadyH.nil)
    go_simp
    refine (HU.out _).mono ?_
    rintro e v14 ⟨rfl, hb14⟩
    have HX14 : Hid (IsKs v14 w.heap.size K) := HX11.out.on hb14
    have HY14 : Hid (Below w.heap.size w v14) := below_call HY11.out hb14
    try go_wp2_with fail
    refine hKx.out _ _ hb14 (fun hHeld => ?_)
    clear hKx Kx hHeld
    try simp only [Act.put, List.setIfInBounds_toArray, List.set_cons_zero, List.set_cons_succ]
    refine wpAnyH_shift (S' := fun w' => Below v14.heap.size v14 w') (fun _ h => Below.trans hb14 (h.mono hb14.size)) _ _ _ _ ?_
    have hHeld : (fun w' => Below v14.heap.size v14 w') v14 := Below.refl _ _
    refine wpAnyH_take (i := 15) (oi := ?o15_3t) (v := ?v15_3t) ?ho15_3t (by kernel_rfl) (by kernel_rfl) (by kernel_rfl) ?q15_3t ?y15_3t (by assumption) ?rest15_3t
    case ho15_3t => (simp only [List.getElem?_toArray, List.getElem?_cons_succ, List.getElem?_cons_zero]; rfl)
    case q15_3t => exact fun _ _ _ h => h
    case y15_3t => (refine Or.inl ⟨by rfl, ?_⟩; intro w hSw; (try dsimp only at hSw); go_simp; try with_reducible rfl)
    try simp only [Act.put, List.setIfInBounds_toArray, List.set_cons_zero, List.set_cons_succ]
    refine wpAnyH_take (i := 16) (oi := ?o16_3t) (v := ?v16_3t) ?ho16_3t (by kernel_rfl) (by kernel_rfl) (by kernel_rfl) ?q16_3t ?y16_3t (by assumption) ?rest16_3t
    case ho16_3t => (simp only [List.getElem?_toArray, List.getElem?_cons_succ, List.getElem?_cons_zero]; rfl)
    case q16_3t => exact fun _ _ _ h => h
    case y16_3t => (refine Or.inl ⟨by rfl, ?_⟩; intro w hSw; (try dsimp only at hSw); go_simp; try with_reducible rfl)
    try simp only [Act.put, List.setIfInBounds_toArray, List.set_cons_zero, List.set_cons_succ]
    refine wpAnyH_take (i := 17) (oi := ?o17_3t) (v := ?v17_3t) ?ho17_3t (by kernel_rfl) (by kernel_rfl) (by kernel_rfl) ?q17_3t ?y17_3t (by assumption) ?rest17_3t
    case ho17_3t => (simp only [List.getElem?_toArray, List.getElem?_cons_succ, List.getElem?_cons_zero]; rfl)
    case q17_3t => exact fun _ _ _ h => h
    case y17_3t => (refine Or.inl ⟨by rfl, ?_⟩; intro w hSw; (try dsimp only at hSw); go_simp; try with_reducible rfl)
    try simp only [Act.put, List.setIfInBounds_toArray, List.set_cons_zero, List.set_cons_succ]
    refine wpAnyH_take (i := 18) (oi := ?o18_3t) (v := ?v18_3t) ?ho18_3t (by kernel_rfl) (by kernel_rfl) (by kernel_rfl) ?q18_3t ?y18_3t (by assumption) ?rest18_3t
    case ho18_3t => (simp only [List.getElem?_toArray, List.getElem?_cons_succ, List.getElem?_cons_zero]; rfl)
    case q18_3t => exact fun _ _ _ h => h
    case y18_3t => (refine Or.inl ⟨by rfl, ?_⟩; intro w hSw; (try dsimp only at hSw); go_simp; try with_reducible rfl)
    try simp only [Act.put, List.setIfInBounds_toArray, List.set_cons_zero, List.set_cons_succ]
    refine wpAnyH_take (i := 19) (oi := ?o19_3t) (v := ?v19_3t) ?ho19_3t (by kernel_rfl) (by kernel_rfl) (by kernel_rfl) ?q19_3t ?y19_3t (by assumption) ?rest19_3t
    case ho19_3t => (simp only [List.getElem?_toArray, List.getElem?_cons_succ, List.getElem?_cons_zero]; rfl)
    case q19_3t => exact fun _ _ _ h => h
    case y19_3t => (refine Or.inl ⟨by rfl, ?_⟩; intro w hSw; (try dsimp only at hSw); go_simp; try with_reducible rfl)
    try simp only [Act.put, List.setIfInBounds_toArray, List.set_cons_zero, List.set_cons_succ]
    refine wpAnyH_take (i := 20) (oi := ?o20_3t) (v := ?v20_3t) ?ho20_3t (by kernel_rfl) (by kernel_rfl) (by kernel_rfl) ?q20_3t ?y20_3t (by assumption) ?rest20_3t
    case ho20_3t => (simp only [List.getElem?_toArray, List.getElem?_cons_succ, List.getElem?_cons_zero]; rfl)
    case q20_3t => exact fun _ _ _ h => h
    case y20_3t => (refine Or.inl ⟨by rfl, ?_⟩; intro w hSw; (try dsimp only at hSw); go_simp; try with_reducible rfl)
    try simp only [Act.put, List.setIfInBounds_toArray, List.set_cons_zero, List.set_cons_succ]
    refine wpAnyH_take (i := 21) (oi := ?o21_3t) (v := ?v21_3t) ?ho21_3t (by kernel_rfl) (by kernel_rfl) (by kernel_rfl) ?q21_3t ?y21_3t (by assumption) ?rest21_3t
    case ho21_3t => (simp only [List.getElem?_toArray, List.getElem?_cons_succ, List.getElem?_cons_zero]; rfl)
    case q21_3t => exact fun _ _ _ h => h
    case y21_3t => (refine Or.inl ⟨by rfl, ?_⟩; intro w hSw; (try dsimp only at hSw); obtain ⟨⟨q0, q1, q2, q3, q4, q5, q6⟩, -⟩ := seven_cells (HX14.out.on hSw); go_simp; try with_reducible rfl)
    try simp only [Act.put, List.setIfInBounds_toArray, List.set_cons_zero, List.set_cons_succ]
    refine wpAnyH_take (i := 22) (oi := ?o22_3t) (v := ?v22_3t) ?ho22_3t (by kernel_rfl) (by kernel_rfl) (by kernel_rfl) ?q22_3t ?y22_3t (by assumption) ?rest22_3t
    case ho22_3t => (simp only [List.getElem?_toArray, List.getElem?_cons_succ, List.getElem?_cons_zero]; rfl)
    case q22_3t => exact fun _ _ _ h => h
    case y22_3t => (refine Or.inl ⟨by rfl, ?_⟩; intro w hSw; (try dsimp only at hSw); go_simp; try with_reducible rfl)
    try simp only [Act.put, List.setIfInBounds_toArray, List.set_cons_zero, List.set_cons_succ]
    refine wpAnyH_ready (rs := [23]) (by kernel_rfl) (by simp) (AllReadyH.cons rfl (fun Kx hKx => ?_) AllReadyH.nil)
    go_simp
    refine (HV.out _).mono ?_
    rintro e v23 ⟨rfl, hb23⟩
    have HX23 : Hid (IsKs v23 w.heap.size K) := HX14.out.on hb23
    have HY23 : Hid (Below w.heap.size w v23) := below_call HY14.out hb23
    try go_wp2_with fail
    refine hKx.out _ _ hb23 (fun hHeld => ?_)
    clear hKx Kx hHeld
    try simp only [Act.put, List.setIfInBounds_toArray, List.set_cons_zero, List.set_cons_succ]
    refine wpAnyH_shift (S' := fun w' => Below v23.heap.size v23 w') (fun _ h => Below.trans hb23 (h.mono hb23.size)) _ _ _ _ ?_
    have hHeld : (fun w' => Below v23.heap.size v23 w') v23 := Below.refl _ _
    refine wpAnyH_take (i := 24) (oi := ?o24_3t) (v := ?v24_3t) ?ho24_3t (by kernel_rfl) (by kernel_rfl) (by kernel_rfl) ?q24_3t ?y24_3t (by assumption) ?rest24_3t
    case ho24_3t => (simp only [List.getElem?_toArray, List.getElem?_cons_succ, List.getElem?_cons_zero]; rfl)
    case q24_3t => exact fun _ _ _ h => h
    case y24_3t => (refine Or.inl ⟨by rfl, ?_⟩; intro w hSw; (try dsimp only at hSw); go_simp; try with_reducible rfl)
    try simp only [Act.put, List.setIfInBounds_toArray, List.set_cons_zero, List.set_cons_succ]
    refine wpAnyH_take (i := 25) (oi := ?o25_3t) (v := ?v25_3t) ?ho25_3t (by kernel_rfl) (by kernel_rfl) (by kernel_rfl) ?q25_3t ?y25_3t (by assumption) ?rest25_3t
    case ho25_3t => (simp only [List.getElem?_toArray, List.getElem?_cons_succ, List.getElem?_cons_zero]; rfl)
    case q25_3t => exact fun _ _ _ h => h
    case y25_3t => (refine Or.inl ⟨by rfl, ?_⟩; intro w hSw; (try dsimp only at hSw); go_simp; try with_reducible rfl)
    try simp only [Act.put, List.setIfInBounds_toArray, List.set_cons_zero, List.set_cons_succ]
    refine wpAnyH_take (i := 26) (oi := ?o26_3t) (v := ?v26_3t) ?ho26_3t (by kernel_rfl) (by kernel_rfl) (by kernel_rfl) ?q26_3t ?y26_3t (by assumption) ?rest26_3t
    case ho26_3t => (simp only [List.getElem?_toArray, List.getElem?_cons_succ, List.getElem?_cons_zero]; rfl)
    case q26_3t => exact fun _ _ _ h => h
    case y26_3t => (refine Or.inl ⟨by rfl, ?_⟩; intro w hSw; (try dsimp only at hSw); go_simp; try with_reducible rfl)
    try simp only [Act.put, List.setIfInBounds_toArray, List.set_cons_zero, List.set_cons_succ]
    refine wpAnyH_ready (rs := [27]) (by kernel_rfl) (by simp) (AllReadyH.cons rfl (fun Kx hKx => ?_) AllReadyH.nil)
    go_simp
    refine (awake17_any _).mono ?_
    rintro e v27 ⟨rfl, hb27⟩
    have HY27 : Hid (Below w.heap.size w v27) := below_call HY23.out hb27
    try go_wp2_with fail
    refine hKx.out _ _ hb27 (fun hHeld => ?_)
    clear hKx Kx hHeld
    try simp only [Act.put, List.setIfInBounds_toArray, List.set_cons_zero, List.set_cons_succ]
    refine wpAnyH_shift (S' := fun w' => Below v27.heap.size v27 w') (fun _ h => Below.trans hb27 (h.mono hb27.size)) _ _ _ _ ?_
    have hHeld : (fun w' => Below v27.heap.size v27 w') v27 := Below.refl _ _
    refine wpAnyH_take (i := 28) (oi := ?o28_3t) (v := ?v28_3t) ?ho28_3t (by kernel_rfl) (by kernel_rfl) (by kernel_rfl) ?q28_3t ?y28_3t (by assumption) ?rest28_3t
    case ho28_3t => (simp only [List.getElem?_toArray, List.getElem?_cons_succ, List.getElem?_cons_zero]; rfl)
    case q28_3t => exact fun _ _ _ h => h
    case y28_3t => (refine Or.inl ⟨by rfl, ?_⟩; intro w hSw; (try dsimp only at hSw); go_simp; try with_reducible rfl)
    try simp only [Act.put, List.setIfInBounds_toArray, List.set_cons_zero, List.set_cons_succ]
    refine wpAnyH_take (i := 29) (oi := ?o29_3t) (v := ?v29_3t) ?ho29_3t (by kernel_rfl) (by kernel_rfl) (by kernel_rfl) ?q29_3t ?y29_3t (by assumption) ?rest29_3t
    case ho29_3t => (simp only [List.getElem?_toArray, List.getElem?_cons_succ, List.getElem?_cons_zero]; rfl)
    case q29_3t => exact fun _ _ _ h => h
    case y29_3t => (refine Or.inl ⟨by rfl, ?_⟩; intro w hSw; (try dsimp only at hSw); go_simp; try with_reducible rfl)
    try simp only [Act.put, List.setIfInBounds_toArray, List.set_cons_zero, List.set_cons_succ]
    refine wpAnyH_done (by kernel_rfl) ?_ _
    go_wp2
    go_ret
    exact ⟨rfl, HY27.out⟩

theorem walk (K : Nat → Int) (calls : Int) (w : World) (hk : KsB K) (hq : (Lit.int .u32 calls).wf = true) :
    Calls Try.prog 5 #[.agg #[.int .u32 (K 0), .int .u32 (K 1), .int .u32 (K 2), .int .u32 (K 3), .int .u32 (K 4), .int .u32 (K 5), .int .u32 (K 6)], .int .u32 calls] w fun e w' => e = .returned (.bool true) ∧ Below w.heap.size w w' := by
  have b3 := bounds_u32 hq
  exact walk0 K calls w hk ⟨by omega, by omega⟩
end trapHears
end Go.Proofs.Ytlmmebgicanmhaa
