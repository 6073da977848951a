/- Layer 17: the walk of TrapBack. -/
import Derived.Test.YtlmmebgicanmhaaTrapAwake
import Derived.Test.YtlmmebgicanmhaaTrapEndM
import Derived.Test.YtlmmebgicanmhaaTrapHear
import Derived.OpenShut
namespace Go.Proofs.Ytlmmebgicanmhaa
open Go.RowKit
set_option linter.unusedVariables false
set_option linter.unusedSimpArgs false
namespace trapBack

theorem deaf (K : Nat → Int) (p c v calls : Int) : heardZ (entK K p c v 0) (entK K p c v 1) calls = 0 ∧ heardB (entK K p c v 0) (entK K p c v 1) calls = false :=
  heard_deaf (enterS_deaf (K 0))
theorem back (K : Nat → Int) (p c v calls : Int) : heardZ (retK (entK K p c v) 0) (retK (entK K p c v) 1) calls = heardZ (K 0) (K 1) calls ∧ heardB (retK (entK K p c v) 0) (retK (entK K p c v) 1) calls = heardB (K 0) (K 1) calls := by
  have h : bitsOf (retK (entK K p c v) 0) 3 1 = bitsOf (K 0) 3 1 := returnS_heard (K 0)
  have e : retK (entK K p c v) 1 = K 1 := rfl
  unfold heardZ heardB
  rw [h, e]
  exact ⟨rfl, rfl⟩

set_option maxHeartbeats 3000000 in
set_option maxRecDepth 100000 in
theorem walk0 (K : Nat → Int) (p c v calls : Int) (w : World) (hk : KsB K) (hp : W32 p) (hc : W32 c) (hv : W32 v) (hq : W32 calls) :
    Calls Try.prog 6 #[.agg #[.int .u32 (K 0), .int .u32 (K 1), .int .u32 (K 2), .int .u32 (K 3), .int .u32 (K 4), .int .u32 (K 5), .int .u32 (K 6)], .agg #[.int .u32 p, .int .u32 c, .int .u32 v], .int .u32 calls] w fun e w' => e = .returned (.bool true) ∧ Below w.heap.size w w' := by
  have hx : KsB (entK K p c v) := entK_bd hk hp hc hv
  have hy := retK_bd hx
  have HE : Hid (∀ W : World, Calls Try.prog 7 #[.agg #[.int .u32 (K 0), .int .u32 (K 1), .int .u32 (K 2), .int .u32 (K 3), .int .u32 (K 4), .int .u32 (K 5), .int .u32 (K 6)], .int .u32 p, .int .u32 c, .int .u32 v] W fun e w' => e = .returned (.tuple #[.agg #[.int .u32 ((entK K p c v) 0), .int .u32 ((entK K p c v) 1), .int .u32 ((entK K p c v) 2), .int .u32 ((entK K p c v) 3), .int .u32 ((entK K p c v) 4), .int .u32 ((entK K p c v) 5), .int .u32 ((entK K p c v) 6)], .int .u32 (atZ (K 2) c)]) ∧ Below W.heap.size W w') := fun W => genter_any K p c v W hk hc.1 hc.2
  have HX : Hid (∀ W : World, Calls Try.prog 14 #[.agg #[.int .u32 ((entK K p c v) 0), .int .u32 ((entK K p c v) 1), .int .u32 ((entK K p c v) 2), .int .u32 ((entK K p c v) 3), .int .u32 ((entK K p c v) 4), .int .u32 ((entK K p c v) 5), .int .u32 ((entK K p c v) 6)], .int .u32 calls] W fun e w' => e = .returned (.tuple #[.int .u32 0, .bool false]) ∧ Below W.heap.size W w') := fun W => by
    have h := gheard_any (entK K p c v) calls W hx hq
    rw [(deaf K p c v calls).1, (deaf K p c v calls).2] at h
    exact h
  have HR : Hid (∀ W : World, Calls Try.prog 12 #[.agg #[.int .u32 ((entK K p c v) 0), .int .u32 ((entK K p c v) 1), .int .u32 ((entK K p c v) 2), .int .u32 ((entK K p c v) 3), .int .u32 ((entK K p c v) 4), .int .u32 ((entK K p c v) 5), .int .u32 ((entK K p c v) 6)]] W fun e w' => e = .returned (.tuple #[.agg #[.int .u32 ((retK (entK K p c v)) 0), .int .u32 ((retK (entK K p c v)) 1), .int .u32 ((retK (entK K p c v)) 2), .int .u32 ((retK (entK K p c v)) 3), .int .u32 ((retK (entK K p c v)) 4), .int .u32 ((retK (entK K p c v)) 5), .int .u32 ((retK (entK K p c v)) 6)], .int .u32 p]) ∧ Below W.heap.size W w') := fun W => gret_any (entK K p c v) W hx
  have HY : Hid (∀ W : World, Calls Try.prog 14 #[.agg #[.int .u32 ((retK (entK K p c v)) 0), .int .u32 ((retK (entK K p c v)) 1), .int .u32 ((retK (entK K p c v)) 2), .int .u32 ((retK (entK K p c v)) 3), .int .u32 ((retK (entK K p c v)) 4), .int .u32 ((retK (entK K p c v)) 5), .int .u32 ((retK (entK K p c v)) 6)], .int .u32 calls] W fun e w' => e = .returned (.tuple #[.int .u32 (heardZ (K 0) (K 1) calls), .bool (heardB (K 0) (K 1) calls)]) ∧ Below W.heap.size W w') := fun W => by
    have h := gheard_any (retK (entK K p c v)) calls W hy hq
    rw [(back K p c v calls).1, (back K p c v calls).2] at h
    exact h
  have HK : Hid (∀ W : World, Calls Try.prog 14 #[.agg #[.int .u32 (K 0), .int .u32 (K 1), .int .u32 (K 2), .int .u32 (K 3), .int .u32 (K 4), .int .u32 (K 5), .int .u32 (K 6)], .int .u32 calls] W fun e w' => e = .returned (.tuple #[.int .u32 (heardZ (K 0) (K 1) calls), .bool (heardB (K 0) (K 1) calls)]) ∧ Below W.heap.size W w') := fun W => gheard_any K calls W hk hq
  clear hk hp hc hv hq hx hy
  generalize heardZ (K 0) (K 1) calls = z at *
  generalize heardB (K 0) (K 1) calls = b at *
  generalize retK (entK K p c v) = Y at *
  generalize entK K p c v = X at *
  generalize atZ (K 2) c = t at *
  obtain ⟨W0, hW0⟩ : ∃ W0, W0 = (w.alloc (.cells #[.int .u32 (K 0), .int .u32 (K 1), .int .u32 (K 2), .int .u32 (K 3), .int .u32 (K 4), .int .u32 (K 5), .int .u32 (K 6)] 24)).alloc (.cells #[.int .u32 p, .int .u32 c, .int .u32 v] 36) := ⟨_, rfl⟩
  have HA0 : Hid (IsKs W0 w.heap.size K ∧ IsTri W0 (w.heap.size + 1) p c v ∧ Below w.heap.size w W0) := by
    rw [hW0]
    refine ⟨(ks_new w K).alloc _, ?_, ((Below.refl _ _).alloc (Nat.le_refl _) _).alloc (by simp) _⟩
    have hn : ∀ (V : World) (o : Obj), (V.alloc o).heap[V.heap.size]? = some o := fun V o => by
      show (V.heap.push _)[V.heap.size]? = _
      simp
    have h := hn (w.alloc (.cells #[.int .u32 (K 0), .int .u32 (K 1), .int .u32 (K 2), .int .u32 (K 3), .int .u32 (K 4), .int .u32 (K 5), .int .u32 (K 6)] 24)) (.cells #[.int .u32 p, .int .u32 c, .int .u32 v] 36)
    rw [World.size_alloc] at h
    exact h
  have HW0 := Lib.hid hW0
  clear hW0
  go_enter Try.func6, Try.ntmps6
  go_wp2_with fail
  rw [← HW0.out]
  refine (HE.out _).mono ?_
  rintro e w1 ⟨rfl, hb1⟩
  obtain ⟨U1, hU1⟩ : ∃ U, U = w1.alloc (.cells #[.int .u32 (X 0), .int .u32 (X 1), .int .u32 (X 2), .int .u32 (X 3), .int .u32 (X 4), .int .u32 (X 5), .int .u32 (X 6)] 24) := ⟨_, rfl⟩
  have ha1 : IsKs U1 w.heap.size K ∧ IsTri U1 (w.heap.size + 1) p c v ∧ IsKs U1 w1.heap.size X ∧ Below w.heap.size w U1 := by
    have hb : Below W0.heap.size W0 U1 := by rw [hU1]; exact hb1.alloc hb1.size _
    refine ⟨HA0.out.1.on hb, HA0.out.2.1.on hb, ?_, below_call HA0.out.2.2 hb⟩
    rw [hU1]; exact ks_new w1 X
  have HA1 := Lib.hid ha1
  clear ha1 hb1
  have HU1 := Lib.hid hU1
  clear hU1
  go_wp2_with fail
  rw [← HU1.out]
  refine (HX.out _).mono ?_
  rintro e w2 ⟨rfl, hb2⟩
  have ha2 : IsKs w2 w.heap.size K ∧ IsTri w2 (w.heap.size + 1) p c v ∧ IsKs w2 w1.heap.size X ∧ Below w.heap.size w w2 := ⟨HA1.out.1.on hb2, HA1.out.2.1.on hb2, HA1.out.2.2.1.on hb2, below_call HA1.out.2.2.2 hb2⟩
  have HA2 := Lib.hid ha2
  obtain ⟨⟨q0, q1, q2, q3, q4, q5, q6⟩, -⟩ := seven_cells ha2.2.2.1
  clear ha2 hb2
  go_wp2_with fail
  clear q0 q1 q2 q3 q4 q5 q6
  refine (HR.out _).mono ?_
  rintro e w3 ⟨rfl, hb3⟩
  obtain ⟨U3, hU3⟩ : ∃ U, U = w3.alloc (.cells #[.int .u32 (Y 0), .int .u32 (Y 1), .int .u32 (Y 2), .int .u32 (Y 3), .int .u32 (Y 4), .int .u32 (Y 5), .int .u32 (Y 6)] 24) := ⟨_, rfl⟩
  have ha3 : IsKs U3 w.heap.size K ∧ IsTri U3 (w.heap.size + 1) p c v ∧ IsKs U3 w3.heap.size Y ∧ Below w.heap.size w U3 := by
    have hb : Below w2.heap.size w2 U3 := by rw [hU3]; exact hb3.alloc hb3.size _
    refine ⟨HA2.out.1.on hb, HA2.out.2.1.on hb, ?_, below_call HA2.out.2.2.2 hb⟩
    rw [hU3]; exact ks_new w3 Y
  have HA3 := Lib.hid ha3
  have HU3 := Lib.hid hU3
  clear ha3 hU3 hb3
  go_wp2_with fail
  rw [← HU3.out]
  refine (HY.out _).mono ?_
  rintro e w4 ⟨rfl, hb4⟩
  have ha4 : IsKs w4 w.heap.size K ∧ IsTri w4 (w.heap.size + 1) p c v ∧ Below w.heap.size w w4 := ⟨HA3.out.1.on hb4, HA3.out.2.1.on hb4, below_call HA3.out.2.2.2 hb4⟩
  have HA4 := Lib.hid ha4
  obtain ⟨⟨q0, q1, q2, q3, q4, q5, q6⟩, -⟩ := seven_cells ha4.1
  clear ha4 hb4
  go_wp2_with fail
  clear q0 q1 q2 q3 q4 q5 q6
  refine (HK.out _).mono ?_
  rintro e w5 ⟨rfl, hb5⟩
  have ha5 : IsTri w5 (w.heap.size + 1) p c v ∧ Below w.heap.size w w5 := ⟨HA4.out.2.1.on hb5, below_call HA4.out.2.2 hb5⟩
  have HA5 := Lib.hid ha5
  obtain ⟨q0, q1, q2⟩ := tri_cells17 ha5.1
  clear ha5 hb5
  go_wp2_with fail
  clear q0 q1 q2
  refine (awake17_any _).mono ?_
  rintro e w6 ⟨rfl, hb6⟩
  have HB : Hid (Below w.heap.size w w6) := below_call HA5.out.2 hb6
  clear hb6
  go_wp2
  go_ret
  exact ⟨rfl, HB.out⟩

theorem walk (K : Nat → Int) (p c v calls : Int) (w : World) (hk : KsB K) (hp : (Lit.int .u32 p).wf = true) (hc : (Lit.int .u32 c).wf = true) (hv : (Lit.int .u32 v).wf = true) (hq : (Lit.int .u32 calls).wf = true) :
    Calls Try.prog 6 #[.agg #[.int .u32 (K 0), .int .u32 (K 1), .int .u32 (K 2), .int .u32 (K 3), .int .u32 (K 4), .int .u32 (K 5), .int .u32 (K 6)], .agg #[.int .u32 p, .int .u32 c, .int .u32 v], .int .u32 calls] w fun e w' => e = .returned (.bool true) ∧ Below w.heap.size w w' := by
  have b0 := bounds_u32 hp
  have b1 := bounds_u32 hc
  have b2 := bounds_u32 hv
  have b3 := bounds_u32 hq
  exact walk0 K p c v calls w hk ⟨by omega, by omega⟩ ⟨by omega, by omega⟩ ⟨by omega, by omega⟩ ⟨by omega, by omega⟩
end trapBack
end Go.Proofs.Ytlmmebgicanmhaa
