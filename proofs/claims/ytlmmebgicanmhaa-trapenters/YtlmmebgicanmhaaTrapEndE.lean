/- Layer 17: the walk of TrapEnters. -/
import Derived.Test.YtlmmebgicanmhaaTrapAwake
import Derived.Test.YtlmmebgicanmhaaTrapEndM
import Derived.Test.YtlmmebgicanmhaaTrapRefA
import Derived.Test.YtlmmebgicanmhaaTrapRefB
import Derived.Test.YtlmmebgicanmhaaTrapRefC
import Derived.Test.YtlmmebgicanmhaaPhase
import Derived.OpenShut
namespace Go.Proofs.Ytlmmebgicanmhaa
open Go.RowKit
set_option linter.unusedVariables false
set_option linter.unusedSimpArgs false
namespace trapEnters

theorem renter_any (K : Nat → Int) (pc c v : Int) (w : World) (hk : KsB K) (hc : W32 c) :
    Calls Try.prog 8 #[.agg #[.int .u32 (K 0), .int .u32 (K 1), .int .u32 (K 2), .int .u32 (K 3), .int .u32 (K 4), .int .u32 (K 5), .int .u32 (K 6)], .int .u32 pc, .int .u32 c, .int .u32 v] w fun e w' => e = .returned (.tuple #[.agg #[.int .u32 ((entK K pc c v) 0), .int .u32 ((entK K pc c v) 1), .int .u32 ((entK K pc c v) 2), .int .u32 ((entK K pc c v) 3), .int .u32 ((entK K pc c v) 4), .int .u32 ((entK K pc c v) 5), .int .u32 ((entK K pc c v) 6)], .int .u32 (atZ (K 2) c)]) ∧ Below w.heap.size w w' := by
  by_cases h : 2147483648 ≤ c
  · by_cases g : K 2 % 2 = 1
    · exact renter17_far K pc c v w hk hc h g
    · exact renter17_near K pc c v w hk hc h g
  · exact renter17_plain K pc c v w hk hc h

set_option maxHeartbeats 6000000 in
set_option maxRecDepth 100000 in
theorem walk0 (K : Nat → Int) (pc c v : Int) (w : World) (hk : KsB K) (hc : W32 c) :
    Calls Try.prog 3 #[.agg #[.int .u32 (K 0), .int .u32 (K 1), .int .u32 (K 2), .int .u32 (K 3), .int .u32 (K 4), .int .u32 (K 5), .int .u32 (K 6)], .int .u32 pc, .agg #[.int .u32 c, .int .u32 v]] w fun e w' => e = .returned (.bool true) ∧ Below w.heap.size w w' := by
  obtain ⟨m, hm, hn, hy⟩ := first_of (fun j => causeT j == c) 12
  have HG : Hid (∀ W : World, Calls Try.prog 7 #[.agg #[.int .u32 (K 0), .int .u32 (K 1), .int .u32 (K 2), .int .u32 (K 3), .int .u32 (K 4), .int .u32 (K 5), .int .u32 (K 6)], .int .u32 pc, .int .u32 c, .int .u32 v] W fun e w' => e = .returned (.tuple #[.agg #[.int .u32 ((entK K pc c v) 0), .int .u32 ((entK K pc c v) 1), .int .u32 ((entK K pc c v) 2), .int .u32 ((entK K pc c v) 3), .int .u32 ((entK K pc c v) 4), .int .u32 ((entK K pc c v) 5), .int .u32 ((entK K pc c v) 6)], .int .u32 (atZ (K 2) c)]) ∧ Below W.heap.size W w') := fun W => genter_any K pc c v W hk hc.1 hc.2
  have HR : Hid (∀ W : World, Calls Try.prog 8 #[.agg #[.int .u32 (K 0), .int .u32 (K 1), .int .u32 (K 2), .int .u32 (K 3), .int .u32 (K 4), .int .u32 (K 5), .int .u32 (K 6)], .int .u32 pc, .int .u32 c, .int .u32 v] W fun e w' => e = .returned (.tuple #[.agg #[.int .u32 ((entK K pc c v) 0), .int .u32 ((entK K pc c v) 1), .int .u32 ((entK K pc c v) 2), .int .u32 ((entK K pc c v) 3), .int .u32 ((entK K pc c v) 4), .int .u32 ((entK K pc c v) 5), .int .u32 ((entK K pc c v) 6)], .int .u32 (atZ (K 2) c)]) ∧ Below W.heap.size W w') := fun W => renter_any K pc c v W hk hc
  have HN : Hid (∀ W : World, Calls Try.prog 9 #[.int .u32 c] W fun e w' => e = .returned (.string (nameT m)) ∧ Below W.heap.size W w') := fun W => gname_any c m W hm hn hy
  have HM : Hid (∀ W : World, Calls Try.prog 10 #[.int .u32 c] W fun e w' => e = .returned (.string (nameT m)) ∧ Below W.heap.size W w') := fun W => rname17_any c m W hc.1 hm hn hy
  clear hk hc hm hn hy
  generalize nameT m = s at *
  generalize entK K pc c v = R at *
  generalize atZ (K 2) c = t at *
  obtain ⟨W0, hW0⟩ : ∃ W0, W0 = (w.alloc (.cells #[.int .u32 (K 0), .int .u32 (K 1), .int .u32 (K 2), .int .u32 (K 3), .int .u32 (K 4), .int .u32 (K 5), .int .u32 (K 6)] 24)).alloc (.cells #[.int .u32 c, .int .u32 v] 25) := ⟨_, rfl⟩
  have HA0 : Hid (IsKs W0 w.heap.size K ∧ IsTwo W0 (w.heap.size + 1) c v ∧ Below w.heap.size w W0) := by
    rw [hW0]
    refine ⟨(ks_new w K).alloc _, ?_, ((Below.refl _ _).alloc (Nat.le_refl _) _).alloc (by simp) _⟩
    have hn : ∀ (V : World) (o : Obj), (V.alloc o).heap[V.heap.size]? = some o := fun V o => by
      show (V.heap.push _)[V.heap.size]? = _
      simp
    have h := hn (w.alloc (.cells #[.int .u32 (K 0), .int .u32 (K 1), .int .u32 (K 2), .int .u32 (K 3), .int .u32 (K 4), .int .u32 (K 5), .int .u32 (K 6)] 24)) (.cells #[.int .u32 c, .int .u32 v] 25)
    rw [World.size_alloc] at h
    exact h
  have HW0 := Lib.hid hW0
  clear hW0
  go_enter Try.func3, Try.ntmps3
  go_wp2_with fail
  rw [← HW0.out]
  refine (HG.out _).mono ?_
  rintro e w1 ⟨rfl, hb1⟩
  obtain ⟨U1, hU1⟩ : ∃ U, U = w1.alloc (.cells #[.int .u32 (R 0), .int .u32 (R 1), .int .u32 (R 2), .int .u32 (R 3), .int .u32 (R 4), .int .u32 (R 5), .int .u32 (R 6)] 24) := ⟨_, rfl⟩
  have ha1 : IsKs U1 w.heap.size K ∧ IsTwo U1 (w.heap.size + 1) c v ∧ IsKs U1 w1.heap.size R ∧ Below w.heap.size w U1 := by
    have hb : Below W0.heap.size W0 U1 := by rw [hU1]; exact hb1.alloc hb1.size _
    refine ⟨HA0.out.1.on hb, HA0.out.2.1.on hb, ?_, below_call HA0.out.2.2 hb⟩
    rw [hU1]; exact ks_new w1 R
  have HA1 := Lib.hid ha1
  obtain ⟨⟨q0, q1, q2, q3, q4, q5, q6⟩, -⟩ := seven_cells ha1.1
  obtain ⟨r0, r1⟩ := two_cells17 ha1.2.1
  rw [hU1] at q0 q1 q2 q3 q4 q5 q6 r0 r1
  have HU1 := Lib.hid hU1
  clear ha1 hU1 hb1
  go_wp2_with fail
  rw [← HU1.out]
  clear q0 q1 q2 q3 q4 q5 q6 r0 r1
  refine (HR.out _).mono ?_
  rintro e w2 ⟨rfl, hb2⟩
  obtain ⟨U2, hU2⟩ : ∃ U, U = w2.alloc (.cells #[.int .u32 (R 0), .int .u32 (R 1), .int .u32 (R 2), .int .u32 (R 3), .int .u32 (R 4), .int .u32 (R 5), .int .u32 (R 6)] 24) := ⟨_, rfl⟩
  have ha2 : IsTwo U2 (w.heap.size + 1) c v ∧ IsKs U2 w1.heap.size R ∧ IsKs U2 w2.heap.size R ∧ Below w.heap.size w U2 := by
    have hb : Below U1.heap.size U1 U2 := by rw [hU2]; exact hb2.alloc hb2.size _
    refine ⟨HA1.out.2.1.on hb, HA1.out.2.2.1.on hb, ?_, below_call HA1.out.2.2.2 hb⟩
    rw [hU2]; exact ks_new w2 R
  have HX : Hid (IsKs U2.drew w1.heap.size R) := ha2.2.1
  have HXX : Hid (IsKs U2.drew w2.heap.size R) := ha2.2.2.1
  have HT2 : Hid (IsTwo U2.drew (w.heap.size + 1) c v) := ha2.1
  have HB2 : Hid (Below w.heap.size w U2.drew) := ha2.2.2.2.drew
  have HU2 := Lib.hid hU2
  clear ha2 hU2 hb2
  go_wp2_with fail
  rw [← HU2.out]
  refine wp_region_held_drew (S := fun w' => Below U2.drew.heap.size U2.drew w') (by kernel_rfl) (Below.refl _ _) (fun hHeld => ?_)
  refine wpAnyH_take (i := 0) (oi := ?o0_3) (v := ?v0_3) ?ho0_3 (by kernel_rfl) (by kernel_rfl) (by kernel_rfl) ?q0_3 ?y0_3 (by assumption) ?rest0_3
  case ho0_3 => (simp only [List.getElem?_toArray, List.getElem?_cons_succ, List.getElem?_cons_zero]; rfl)
  case q0_3 => exact fun _ _ _ h => h
  case y0_3 => (refine Or.inl ⟨by rfl, ?_⟩; intro w hSw; (try dsimp only at hSw); obtain ⟨⟨q0, q1, q2, q3, q4, q5, q6⟩, -⟩ := seven_cells (HX.out.on hSw); go_simp; try with_reducible rfl)
  try simp only [Act.put, List.setIfInBounds_toArray, List.set_cons_zero, List.set_cons_succ]
  refine wpAnyH_take (i := 1) (oi := ?o1_3) (v := ?v1_3) ?ho1_3 (by kernel_rfl) (by kernel_rfl) (by kernel_rfl) ?q1_3 ?y1_3 (by assumption) ?rest1_3
  case ho1_3 => (simp only [List.getElem?_toArray, List.getElem?_cons_succ, List.getElem?_cons_zero]; rfl)
  case q1_3 => exact fun _ _ _ h => h
  case y1_3 => (refine Or.inl ⟨by rfl, ?_⟩; intro w hSw; (try dsimp only at hSw); obtain ⟨⟨q0, q1, q2, q3, q4, q5, q6⟩, -⟩ := seven_cells (HXX.out.on hSw); go_simp; try with_reducible rfl)
  try simp only [Act.put, List.setIfInBounds_toArray, List.set_cons_zero, List.set_cons_succ]
  refine wpAnyH_take (i := 2) (oi := ?o2_3) (v := ?v2_3) ?ho2_3 (by kernel_rfl) (by kernel_rfl) (by kernel_rfl) ?q2_3 ?y2_3 (by assumption) ?rest2_3
  case ho2_3 => (simp only [List.getElem?_toArray, List.getElem?_cons_succ, List.getElem?_cons_zero]; rfl)
  case q2_3 => exact fun _ _ _ h => h
  case y2_3 => (refine Or.inl ⟨by rfl, ?_⟩; intro w hSw; (try dsimp only at hSw); go_simp; try with_reducible rfl)
  try simp only [Act.put, List.setIfInBounds_toArray, List.set_cons_zero, List.set_cons_succ]
  refine wpAnyH_take (i := 3) (oi := ?o3_3) (v := ?v3_3) ?ho3_3 (by kernel_rfl) (by kernel_rfl) (by kernel_rfl) ?q3_3 ?y3_3 (by assumption) ?rest3_3
  case ho3_3 => (simp only [List.getElem?_toArray, List.getElem?_cons_succ, List.getElem?_cons_zero]; rfl)
  case q3_3 => exact fun _ _ _ h => h
  case y3_3 => (refine Or.inl ⟨by rfl, ?_⟩; intro w hSw; (try dsimp only at hSw); go_simp; try with_reducible rfl)
  try simp only [Act.put, List.setIfInBounds_toArray, List.set_cons_zero, List.set_cons_succ]
  refine wpAnyH_take (i := 4) (oi := ?o4_3) (v := ?v4_3) ?ho4_3 (by kernel_rfl) (by kernel_rfl) (by kernel_rfl) ?q4_3 ?y4_3 (by assumption) ?rest4_3
  case ho4_3 => (simp only [List.getElem?_toArray, List.getElem?_cons_succ, List.getElem?_cons_zero]; rfl)
  case q4_3 => exact fun _ _ _ h => h
  case y4_3 => (refine Or.inl ⟨by rfl, ?_⟩; intro w hSw; (try dsimp only at hSw); go_simp; try with_reducible rfl)
  try simp only [Act.put, List.setIfInBounds_toArray, List.set_cons_zero, List.set_cons_succ]
  refine wpAnyH_take (i := 5) (oi := ?o5_3) (v := ?v5_3) ?ho5_3 (by kernel_rfl) (by kernel_rfl) (by kernel_rfl) ?q5_3 ?y5_3 (by assumption) ?rest5_3
  case ho5_3 => (simp only [List.getElem?_toArray, List.getElem?_cons_succ, List.getElem?_cons_zero]; rfl)
  case q5_3 => exact fun _ _ _ h => h
  case y5_3 => (refine Or.inl ⟨by rfl, ?_⟩; intro w hSw; (try dsimp only at hSw); go_simp; try with_reducible rfl)
  try simp only [Act.put, List.setIfInBounds_toArray, List.set_cons_zero, List.set_cons_succ]
  refine wpAnyH_take (i := 6) (oi := ?o6_3) (v := ?v6_3) ?ho6_3 (by kernel_rfl) (by kernel_rfl) (by kernel_rfl) ?q6_3 ?y6_3 (by assumption) ?rest6_3
  case ho6_3 => (simp only [List.getElem?_toArray, List.getElem?_cons_succ, List.getElem?_cons_zero]; rfl)
  case q6_3 => exact fun _ _ _ h => h
  case y6_3 => (refine Or.inl ⟨by rfl, ?_⟩; intro w hSw; (try dsimp only at hSw); go_simp; try with_reducible rfl)
  try simp only [Act.put, List.setIfInBounds_toArray, List.set_cons_zero, List.set_cons_succ]
  refine wpAnyH_take (i := 7) (oi := ?o7_3) (v := ?v7_3) ?ho7_3 (by kernel_rfl) (by kernel_rfl) (by kernel_rfl) ?q7_3 ?y7_3 (by assumption) ?rest7_3
  case ho7_3 => (simp only [List.getElem?_toArray, List.getElem?_cons_succ, List.getElem?_cons_zero]; rfl)
  case q7_3 => exact fun _ _ _ h => h
  case y7_3 => (refine Or.inl ⟨by rfl, ?_⟩; intro w hSw; (try dsimp only at hSw); go_simp; try with_reducible rfl)
  try simp only [Act.put, List.setIfInBounds_toArray, List.set_cons_zero, List.set_cons_succ]
  refine wpAnyH_take (i := 8) (oi := ?o8_3) (v := ?v8_3) ?ho8_3 (by kernel_rfl) (by kernel_rfl) (by kernel_rfl) ?q8_3 ?y8_3 (by assumption) ?rest8_3
  case ho8_3 => (simp only [List.getElem?_toArray, List.getElem?_cons_succ, List.getElem?_cons_zero]; rfl)
  case q8_3 => exact fun _ _ _ h => h
  case y8_3 => (refine Or.inl ⟨by rfl, ?_⟩; intro w hSw; (try dsimp only at hSw); go_simp; try with_reducible rfl)
  try simp only [Act.put, List.setIfInBounds_toArray, List.set_cons_zero, List.set_cons_succ]
  refine wpAnyH_take (i := 9) (oi := ?o9_3) (v := ?v9_3) ?ho9_3 (by kernel_rfl) (by kernel_rfl) (by kernel_rfl) ?q9_3 ?y9_3 (by assumption) ?rest9_3
  case ho9_3 => (simp only [List.getElem?_toArray, List.getElem?_cons_succ, List.getElem?_cons_zero]; rfl)
  case q9_3 => exact fun _ _ _ h => h
  case y9_3 => (refine Or.inl ⟨by rfl, ?_⟩; intro w hSw; (try dsimp only at hSw); go_simp; try with_reducible rfl)
  try simp only [Act.put, List.setIfInBounds_toArray, List.set_cons_zero, List.set_cons_succ]
  refine wpAnyH_take (i := 10) (oi := ?o10_3) (v := ?v10_3) ?ho10_3 (by kernel_rfl) (by kernel_rfl) (by kernel_rfl) ?q10_3 ?y10_3 (by assumption) ?rest10_3
  case ho10_3 => (simp only [List.getElem?_toArray, List.getElem?_cons_succ, List.getElem?_cons_zero]; rfl)
  case q10_3 => exact fun _ _ _ h => h
  case y10_3 => (refine Or.inl ⟨by rfl, ?_⟩; intro w hSw; (try dsimp only at hSw); obtain ⟨r0, r1⟩ := two_cells17 (HT2.out.on hSw); go_simp; try with_reducible rfl)
  try simp only [Act.put, List.setIfInBounds_toArray, List.set_cons_zero, List.set_cons_succ]
  refine wpAnyH_take (i := 12) (oi := ?o12_3) (v := ?v12_3) ?ho12_3 (by kernel_rfl) (by kernel_rfl) (by kernel_rfl) ?q12_3 ?y12_3 (by assumption) ?rest12_3
  case ho12_3 => (simp only [List.getElem?_toArray, List.getElem?_cons_succ, List.getElem?_cons_zero]; rfl)
  case q12_3 => exact fun _ _ _ h => h
  case y12_3 => (refine Or.inl ⟨by rfl, ?_⟩; intro w hSw; (try dsimp only at hSw); go_simp; try with_reducible rfl)
  try simp only [Act.put, List.setIfInBounds_toArray, List.set_cons_zero, List.set_cons_succ]
  refine wpAnyH_take (i := 13) (oi := ?o13_3) (v := ?v13_3) ?ho13_3 (by kernel_rfl) (by kernel_rfl) (by kernel_rfl) ?q13_3 ?y13_3 (by assumption) ?rest13_3
  case ho13_3 => (simp only [List.getElem?_toArray, List.getElem?_cons_succ, List.getElem?_cons_zero]; rfl)
  case q13_3 => exact fun _ _ _ h => h
  case y13_3 => (refine Or.inl ⟨by rfl, ?_⟩; intro w hSw; (try dsimp only at hSw); obtain ⟨r0, r1⟩ := two_cells17 (HT2.out.on hSw); go_simp; try with_reducible rfl)
  try simp only [Act.put, List.setIfInBounds_toArray, List.set_cons_zero, List.set_cons_succ]
  refine wpAnyH_ready (rs := [11]) (by kernel_rfl) (by simp) (AllReadyH.cons rfl (fun Kx hKx => ?_) AllReadyH.nil)
  go_simp
  refine (HN.out _).mono ?_
  rintro e v11 ⟨rfl, hb11⟩
  have HY11 : Hid (Below w.heap.size w v11) := below_call HB2.out hb11
  try go_wp2_with fail
  refine hKx.out _ _ hb11 (fun hHeld => ?_)
  clear hKx Kx hHeld
  try simp only [Act.put, List.setIfInBounds_toArray, List.set_cons_zero, List.set_cons_succ]
  refine wpAnyH_shift (S' := fun w' => Below v11.heap.size v11 w') (fun _ h => Below.trans hb11 (h.mono hb11.size)) _ _ _ _ ?_
  have hHeld : (fun w' => Below v11.heap.size v11 w') v11 := Below.refl _ _
  refine wpAnyH_ready (rs := [14]) (by kernel_rfl) (by simp) (AllReadyH.cons rfl (fun Kx hKx => ?_) AllReadyH.nil)
  go_simp
  refine (HM.out _).mono ?_
  rintro e v14 ⟨rfl, hb14⟩
  have HY14 : Hid (Below w.heap.size w v14) := below_call HY11.out hb14
  try go_wp2_with fail
  refine hKx.out _ _ hb14 (fun hHeld => ?_)
  clear hKx Kx hHeld
  try simp only [Act.put, List.setIfInBounds_toArray, List.set_cons_zero, List.set_cons_succ]
  refine wpAnyH_shift (S' := fun w' => Below v14.heap.size v14 w') (fun _ h => Below.trans hb14 (h.mono hb14.size)) _ _ _ _ ?_
  have hHeld : (fun w' => Below v14.heap.size v14 w') v14 := Below.refl _ _
  refine wpAnyH_take (i := 15) (oi := ?o15_3) (v := ?v15_3) ?ho15_3 (by kernel_rfl) (by kernel_rfl) (by kernel_rfl) ?q15_3 ?y15_3 (by assumption) ?rest15_3
  case ho15_3 => (simp only [List.getElem?_toArray, List.getElem?_cons_succ, List.getElem?_cons_zero]; rfl)
  case q15_3 => exact fun _ _ _ h => h
  case y15_3 => (refine Or.inl ⟨by rfl, ?_⟩; intro w hSw; (try dsimp only at hSw); go_simp; try with_reducible rfl)
  try simp only [Act.put, List.setIfInBounds_toArray, List.set_cons_zero, List.set_cons_succ]
  refine wpAnyH_take (i := 16) (oi := ?o16_3) (v := ?v16_3) ?ho16_3 (by kernel_rfl) (by kernel_rfl) (by kernel_rfl) ?q16_3 ?y16_3 (by assumption) ?rest16_3
  case ho16_3 => (simp only [List.getElem?_toArray, List.getElem?_cons_succ, List.getElem?_cons_zero]; rfl)
  case q16_3 => exact fun _ _ _ h => h
  case y16_3 => (refine Or.inl ⟨by rfl, ?_⟩; intro w hSw; (try dsimp only at hSw); go_simp; try with_reducible rfl)
  try simp only [Act.put, List.setIfInBounds_toArray, List.set_cons_zero, List.set_cons_succ]
  refine wpAnyH_take (i := 17) (oi := ?o17_3) (v := ?v17_3) ?ho17_3 (by kernel_rfl) (by kernel_rfl) (by kernel_rfl) ?q17_3 ?y17_3 (by assumption) ?rest17_3
  case ho17_3 => (simp only [List.getElem?_toArray, List.getElem?_cons_succ, List.getElem?_cons_zero]; rfl)
  case q17_3 => exact fun _ _ _ h => h
  case y17_3 => (refine Or.inl ⟨by rfl, ?_⟩; intro w hSw; (try dsimp only at hSw); go_simp; try with_reducible rfl)
  try simp only [Act.put, List.setIfInBounds_toArray, List.set_cons_zero, List.set_cons_succ]
  refine wpAnyH_ready (rs := [18]) (by kernel_rfl) (by simp) (AllReadyH.cons rfl (fun Kx hKx => ?_) AllReadyH.nil)
  go_simp
  refine (awake17_any _).mono ?_
  rintro e v18 ⟨rfl, hb18⟩
  have HY18 : Hid (Below w.heap.size w v18) := below_call HY14.out hb18
  try go_wp2_with fail
  refine hKx.out _ _ hb18 (fun hHeld => ?_)
  clear hKx Kx hHeld
  try simp only [Act.put, List.setIfInBounds_toArray, List.set_cons_zero, List.set_cons_succ]
  refine wpAnyH_shift (S' := fun w' => Below v18.heap.size v18 w') (fun _ h => Below.trans hb18 (h.mono hb18.size)) _ _ _ _ ?_
  have hHeld : (fun w' => Below v18.heap.size v18 w') v18 := Below.refl _ _
  refine wpAnyH_take (i := 19) (oi := ?o19_3) (v := ?v19_3) ?ho19_3 (by kernel_rfl) (by kernel_rfl) (by kernel_rfl) ?q19_3 ?y19_3 (by assumption) ?rest19_3
  case ho19_3 => (simp only [List.getElem?_toArray, List.getElem?_cons_succ, List.getElem?_cons_zero]; rfl)
  case q19_3 => exact fun _ _ _ h => h
  case y19_3 => (refine Or.inl ⟨by rfl, ?_⟩; intro w hSw; (try dsimp only at hSw); go_simp; try with_reducible rfl)
  try simp only [Act.put, List.setIfInBounds_toArray, List.set_cons_zero, List.set_cons_succ]
  refine wpAnyH_take (i := 20) (oi := ?o20_3) (v := ?v20_3) ?ho20_3 (by kernel_rfl) (by kernel_rfl) (by kernel_rfl) ?q20_3 ?y20_3 (by assumption) ?rest20_3
  case ho20_3 => (simp only [List.getElem?_toArray, List.getElem?_cons_succ, List.getElem?_cons_zero]; rfl)
  case q20_3 => exact fun _ _ _ h => h
  case y20_3 => (refine Or.inl ⟨by rfl, ?_⟩; intro w hSw; (try dsimp only at hSw); go_simp; try with_reducible rfl)
  try simp only [Act.put, List.setIfInBounds_toArray, List.set_cons_zero, List.set_cons_succ]
  refine wpAnyH_done (by kernel_rfl) ?_ _
  go_wp2
  go_ret
  exact ⟨rfl, HY18.out⟩

theorem walk (K : Nat → Int) (pc c v : Int) (w : World) (hk : KsB K) (hp : (Lit.int .u32 pc).wf = true) (hc : (Lit.int .u32 c).wf = true) (hv : (Lit.int .u32 v).wf = true) :
    Calls Try.prog 3 #[.agg #[.int .u32 (K 0), .int .u32 (K 1), .int .u32 (K 2), .int .u32 (K 3), .int .u32 (K 4), .int .u32 (K 5), .int .u32 (K 6)], .int .u32 pc, .agg #[.int .u32 c, .int .u32 v]] w fun e w' => e = .returned (.bool true) ∧ Below w.heap.size w w' := by
  have b1 := bounds_u32 hc
  exact walk0 K pc c v w hk ⟨by omega, by omega⟩
end trapEnters
end Go.Proofs.Ytlmmebgicanmhaa
