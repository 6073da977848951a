/- Layer 17: the document's Heard. -/
import Derived.Test.YtlmmebgicanmhaaTrapHear
namespace Go.Proofs.Ytlmmebgicanmhaa
open Go.RowKit
set_option linter.unusedVariables false
set_option linter.unusedSimpArgs false

/-- The bits in the order in which they are heard. -/
def lstZ : Nat → Int
  | 0 => 11 | 1 => 3 | _ => 7
theorem lstZ_bd (j : Nat) : 0 ≤ lstZ j ∧ lstZ j ≤ 31 := by
  match j with
  | 0 => exact ⟨by decide, by decide⟩
  | 1 => exact ⟨by decide, by decide⟩
  | j + 2 => exact ⟨by show (0 : Int) ≤ 7; omega, by show (7 : Int) ≤ 31; omega⟩

/-- The first that is asked for; three, if none is. -/
theorem first_ask (i c : Int) : ∃ m, m ≤ 3 ∧ (∀ j, j < m → askB i c (lstZ j) = false) ∧ (m < 3 → askB i c (lstZ m) = true) := by
  cases h0 : askB i c (lstZ 0) with
  | true => exact ⟨0, by omega, fun j hj => by omega, fun _ => h0⟩
  | false =>
    cases h1 : askB i c (lstZ 1) with
    | true => exact ⟨1, by omega, fun j hj => by obtain rfl : j = 0 := by omega
                                                 exact h0, fun _ => h1⟩
    | false =>
      cases h2 : askB i c (lstZ 2) with
      | true => exact ⟨2, by omega, fun j hj => by
          have : j = 0 ∨ j = 1 := by omega
          rcases this with rfl | rfl
          · exact h0
          · exact h1, fun _ => h2⟩
      | false => exact ⟨3, by omega, fun j hj => by
          have : j = 0 ∨ j = 1 ∨ j = 2 := by omega
          rcases this with rfl | rfl | rfl
          · exact h0
          · exact h1
          · exact h2, fun h => by omega⟩
theorem heard_at {s i c : Int} {m : Nat} (h : ¬ bitsOf s 3 1 = 0) (hm : m ≤ 3) (hn : ∀ j, j < m → askB i c (lstZ j) = false) (hy : m < 3 → askB i c (lstZ m) = true) :
    heardZ s i c = (if m < 3 then 2147483648 + lstZ m else 0) ∧ heardB s i c = decide (m < 3) := by
  unfold heardZ heardB wakesB
  rw [if_neg h, decide_eq_true h]
  have : m = 0 ∨ m = 1 ∨ m = 2 ∨ m = 3 := by omega
  rcases this with rfl | rfl | rfl | rfl
  · have y : askB i c 11 = true := hy (by omega)
    rw [y]; simp [lstZ]
  · have n0 : askB i c 11 = false := hn 0 (by omega)
    have y : askB i c 3 = true := hy (by omega)
    rw [n0, y]; simp [lstZ]
  · have n0 : askB i c 11 = false := hn 0 (by omega)
    have n1 : askB i c 3 = false := hn 1 (by omega)
    have y : askB i c 7 = true := hy (by omega)
    rw [n0, n1, y]; simp [lstZ]
  · have n0 : askB i c 11 = false := hn 0 (by omega)
    have n1 : askB i c 3 = false := hn 1 (by omega)
    have n2 : askB i c 7 = false := hn 2 (by omega)
    rw [n0, n1, n2]; simp

theorem rheard_box (w : World) (K : Nat → Int) (k : Nat) :
    (((w.alloc (.cells #[.int .u32 (K 0), .int .u32 (K 1), .int .u32 (K 2), .int .u32 (K 3), .int .u32 (K 4), .int .u32 (K 5), .int .u32 (K 6)] 24)).drewN k).alloc (.cells #[.int .i64 11, .int .i64 3, .int .i64 7] 3)).cell? ⟨w.heap.size, 1, none⟩ = some (.int .u32 (K 1)) ∧
    (∀ j, j < 3 → (((w.alloc (.cells #[.int .u32 (K 0), .int .u32 (K 1), .int .u32 (K 2), .int .u32 (K 3), .int .u32 (K 4), .int .u32 (K 5), .int .u32 (K 6)] 24)).drewN k).alloc (.cells #[.int .i64 11, .int .i64 3, .int .i64 7] 3)).cell? ⟨w.heap.size + 1, j, none⟩ = some (.int .i64 (lstZ j))) ∧
    Below w.heap.size w (((w.alloc (.cells #[.int .u32 (K 0), .int .u32 (K 1), .int .u32 (K 2), .int .u32 (K 3), .int .u32 (K 4), .int .u32 (K 5), .int .u32 (K 6)] 24)).drewN k).alloc (.cells #[.int .i64 11, .int .i64 3, .int .i64 7] 3)) := by
  refine ⟨?_, fun j hj => ?_, (below_drewN ((Below.refl _ _).alloc (Nat.le_refl _) _) _).alloc (by simp) _⟩
  · simp [go_sem]
  · have : j = 0 ∨ j = 1 ∨ j = 2 := by omega
    rcases this with rfl | rfl | rfl <;> simp [go_sem, lstZ]

set_option maxHeartbeats 3000000 in
set_option maxRecDepth 100000 in
theorem rheard17_any (K : Nat → Int) (c : Int) (w : World) (hk : KsB K) (hc : W32 c) :
    Calls Try.prog 15 #[.agg #[.int .u32 (K 0), .int .u32 (K 1), .int .u32 (K 2), .int .u32 (K 3), .int .u32 (K 4), .int .u32 (K 5), .int .u32 (K 6)], .int .u32 c] w fun e w' => e = .returned (.tuple #[.int .u32 (heardZ (K 0) (K 1) c), .bool (heardB (K 0) (K 1) c)]) ∧ Below w.heap.size w w' := by
  have HI : Hid (W32 (K 1)) := hk 1 (by omega)
  have HS : Hid (W32 (K 0)) := hk 0 (by omega)
  have HC := Lib.hid hc
  have HB : Hid (∀ a b : Obj, Below w.heap.size w ((w.alloc a).alloc b)) := fun a b => ((Below.refl _ _).alloc (Nat.le_refl _) _).alloc (by simp) _
  have HB1 : Hid (∀ a : Obj, Below w.heap.size w (w.alloc a)) := one_alloc w
  clear hk hc
  by_cases g : bitsOf (K 0) 3 1 = 0
  · have HE := Lib.hid (heard_deaf (i := K 1) (c := c) g)
    have h0 : (bitsOf (K 0) 3 1 == 0) = true := by rw [g]; rfl
    clear g
    go_enter Try.func15, Try.ntmps15
    go_wp2_with fail
    refine (rbit_gen _ _ _ HS.out (by omega)).mono ?_
    rintro e w1 ⟨rfl, k1, rfl⟩
    go_wp2
    go_ret2
    exact ⟨by rw [HE.out.1, HE.out.2]; rfl, (HB1.out _).trans (Q.below ⟨_, rfl⟩ _)⟩
  · obtain ⟨m, hm, hn, hy⟩ := first_ask (K 1) c
    have HE := Lib.hid (heard_at g hm hn hy)
    have h0 : (bitsOf (K 0) 3 1 == 0) = false := by rw [beq_eq_false_iff_ne]; exact g
    have HN := Lib.hid hn
    have HY := Lib.hid hy
    clear g hn hy
    go_enter Try.func15, Try.ntmps15
    go_wp2_with fail
    refine (rbit_gen _ _ _ HS.out (by omega)).mono ?_
    rintro e w1 ⟨rfl, k1, rfl⟩
    obtain ⟨hc1, hl, hb⟩ := rheard_box w K k1
    go_wp2_with fail
    generalize ((w.alloc (.cells #[.int .u32 (K 0), .int .u32 (K 1), .int .u32 (K 2), .int .u32 (K 3), .int .u32 (K 4), .int .u32 (K 5), .int .u32 (K 6)] 24)).drewN k1).alloc (.cells #[.int .i64 11, .int .i64 3, .int .i64 7] 3) = W1 at *
    have HL := Lib.hid hl
    have HW := Lib.hid hb
    clear hl hb
    go_loopw [7] (fun i wr => ∃ j : Nat, j ≤ m ∧ i = .int .i64 j ∧ Q W1 wr) (fun i _ => m - (intOf i).toNat)
    case atStart => exact ⟨0, Nat.zero_le _, rfl, Q.refl _⟩
    case round =>
      obtain ⟨j, hj, rfl, hq⟩ := hrel
      have hk1 : wr.cell? ⟨w.heap.size, 1, none⟩ = some (.int .u32 (K 1)) := by obtain ⟨n, rfl⟩ := hq; exact hc1
      have HR : Hid (∀ j, j < 3 → wr.cell? ⟨w.heap.size + 1, j, none⟩ = some (.int .i64 (lstZ j))) := by obtain ⟨n, rfl⟩ := hq; exact HL.out
      have HQ := Lib.hid hq
      clear hq hc1
      by_cases hlt : j < m
      · have hcell := HR.out j (by omega)
        have hs := ask_sum (K 1) c (lstZ j)
        rw [HN.out j hlt] at hs
        have HLZ := Lib.hid (lstZ_bd j)
        go_wp2_with fail
        go_quiet ((go_at_call 20; exact Calls.quiet_of (rbit_gen _ _ _ (by first | with_reducible exact HI.out | with_reducible exact HC.out) HLZ.out)))
        go_wp2
        go_roundw
        case rel => exact ⟨j + 1, by omega, by go_num, HQ.out.drewN _⟩
        case measure => simp [intOf]; omega
      · obtain rfl : j = m := by omega
        by_cases h3 : j < 3
        · have hcell := HR.out j h3
          have hs := ask_sum (K 1) c (lstZ j)
          rw [HY.out h3] at hs
          have HLZ := Lib.hid (lstZ_bd j)
          have q1 : lstZ j % 4294967296 = lstZ j := by have := lstZ_bd j; omega
          have q2 : (2147483648 + lstZ j) % 4294967296 = 2147483648 + lstZ j := by have := lstZ_bd j; omega
          go_wp2_with fail
          go_quiet ((go_at_call 20; exact Calls.quiet_of (rbit_gen _ _ _ (by first | with_reducible exact HI.out | with_reducible exact HC.out) HLZ.out)))
          go_wp2
          go_ret2
          exact ⟨by rw [HE.out.1, HE.out.2, if_pos h3, decide_eq_true h3]; simp, HW.out.trans ((HQ.out.drewN _).below _)⟩
        · obtain rfl : j = 3 := by omega
          go_wp2
          go_ret2
          exact ⟨by rw [HE.out.1, HE.out.2, if_neg h3, decide_eq_false h3]; simp, HW.out.trans (HQ.out.below _)⟩
end Go.Proofs.Ytlmmebgicanmhaa
