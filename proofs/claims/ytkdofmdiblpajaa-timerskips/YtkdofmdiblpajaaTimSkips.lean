/- Layer 13: the walk of TimerSkips. -/
import Derived.Test.YtkdofmdiblpajaaTimEnd
namespace Go.Proofs.Ytkdofmdiblpajaa
open Go.RowKit
set_option linter.unusedVariables false

namespace timerSkips
set_option maxHeartbeats 4000000 in
theorem walk (o m : Int) (s : Bool) (k : Int) (w : World) (w0 : (Lit.int .u64 o).wf = true) (w1 : (Lit.int .u64 m).wf = true) (w2 : (Lit.int .u64 k).wf = true) :
    Calls Try.prog 5 #[.agg #[.int .u64 o, .int .u64 m, .bool s], .int .u64 k] w fun e w' => e = .returned (.bool true) ∧ Below w.heap.size w w' := by
  have hm := bounds_u64 w1
  have hm0 := hm.1
  have hm1 : m < 18446744073709551616 := by omega
  have HM : Hid (0 ≤ m ∧ m < 18446744073709551616) := ⟨hm0, hm1⟩
  have hk := bounds_u64 w2
  have HK : Hid (0 ≤ k ∧ k < 18446744073709551616) := ⟨hk.1, by omega⟩
  have HN : Hid _ := nowZ_lt o k
  have HSU : Hid (upB (offZ m k) m k = true) := skip_up hm0 hm1
  clear w0 w1 w2 hm hm0 hm1 hk
  have hb0 : Below w.heap.size w (w.alloc (.cells #[.int .u64 o, .int .u64 m, .bool s] 24)) := (Below.refl _ _).alloc (Nat.le_refl _) _
  have ht0 : IsTim (w.alloc (.cells #[.int .u64 o, .int .u64 m, .bool s] 24)) w.heap.size o m s := heap_alloc_new _ _
  go_enter Try.func5, Try.ntmps5
  go_wp2_with fail
  generalize w.alloc (.cells #[.int .u64 o, .int .u64 m, .bool s] 24) = W0 at *
  obtain ⟨A, hA⟩ : ∃ A, A = w.heap.size := ⟨_, rfl⟩
  have HA := Lib.hid hA
  rw [← hA] at ht0 ⊢
  clear hA
  refine (of13_any W0 ht0).mono ?_
  rintro e w1 ⟨rfl, hb1⟩
  have hb01 := hb0.trans (hb1.mono hb0.size)
  have ht1 := ht0.on hb1
  have HNEW : Hid (A < w1.heap.size) := ht1.lt
  have hx1 := box3_new w1 o m s
  have hbx : Below w1.heap.size w1 (w1.alloc (.cells #[.int .u64 o, .int .u64 m, .bool s] 26)) := (Below.refl _ _).alloc (Nat.le_refl _) _
  have HT1 : Hid (Two w (w1.alloc (.cells #[.int .u64 o, .int .u64 m, .bool s] 26)) A w1.heap.size o m s o m s) := ⟨ht1.on hbx, hx1, hb01.trans (hbx.mono hb01.size)⟩
  clear hb0 ht0 hb1 hb01 ht1 hx1 hbx
  go_wp2_with fail
  generalize w1.alloc (.cells #[.int .u64 o, .int .u64 m, .bool s] 26) = W1 at *
  generalize w1.heap.size = B at *
  by_cases hu : m ≤ nowZ o k
  · have HL : Hid (leftZ o m k = 0) := if_pos hu
    have HU : Hid (upB o m k = true) := decide_eq_true hu
    have HO : Hid ((if m ≤ nowZ o k then o else offZ m k) = o) := if_pos hu
    clear hu
    refine (tleft_any k W1 HT1.out.1 HM.out.1 HM.out.2).mono ?_
    rw [HL.out]
    rintro e w2 ⟨rfl, hq2⟩
    have HT2 := Lib.hid (HT1.out.q hq2)
    clear hq2
    obtain ⟨c0, c1, c2⟩ := HT2.out.cells
    go_wp2_with fail
    refine (rup13_any o m s k _).mono ?_
    rw [HU.out]
    rintro e w3 ⟨rfl, hb3⟩
    have HT3 := Lib.hid (HT2.out.on hb3)
    clear hb3 c0 c1 c2
    have hk0 := HK.out.1
    have hk1 := HK.out.2
    go_wp2_with fail
    clear hk0 hk1
    refine (tup_any k w3 HT3.out.1).mono ?_
    rw [HU.out]
    rintro e w4 ⟨rfl, hq4⟩
    have HT4 := Lib.hid (HT3.out.q hq4)
    clear hq4
    go_wp2_with fail
    refine (tskip_any k w4 HT4.out.1).mono ?_
    rw [HO.out]
    rintro e w5 ⟨rfl, ht5, hb5⟩
    have HT5 : Hid (Two w w5 A B o m s o m s) := ⟨ht5, HT4.out.2.1.bar hb5 (by have := HNEW.out; omega), HT4.out.2.2.trans (hb5.below (by rw [HA.out]; exact Nat.le_refl _) HT4.out.2.2.size)⟩
    clear ht5 hb5
    obtain ⟨c0, c1, c2⟩ := HT5.out.cells
    go_wp2_with fail
    go_region_held3 (fun w' => w'.cell? ⟨B, 0, none⟩ = some (.int .u64 o) ∧ w'.cell? ⟨B, 1, none⟩ = some (.int .u64 m) ∧ w'.cell? ⟨B, 2, none⟩ = some (.bool s)) (first | (refine ⟨?_, ?_, ?_⟩ <;> assumption) | simp)
      (first
        | (go_at_call 7; refine (of13_any _ HT5.out.drew.1).mono ?_; rintro e w6 ⟨rfl, hb6⟩; have HT6 := Lib.hid (HT5.out.drew.on hb6); obtain ⟨h0, h1, h2⟩ := HT6.out.cells; clear hb6)
        | (go_at_call 21; refine (rskip13_any o m s k _).mono ?_; rw [HO.out]; rintro e w7 ⟨rfl, hb7⟩; have HT7 := Lib.hid (HT6.out.on hb7); obtain ⟨i0, i1, i2⟩ := HT7.out.cells; clear hb7)
        | (go_at_call 13; refine (tup_any k _ HT7.out.1).mono ?_; rw [HU.out]; rintro e w8 ⟨rfl, hq8⟩; have HT8 := Lib.hid (HT7.out.q hq8); obtain ⟨j0, j1, j2⟩ := HT8.out.cells; clear hq8)
        | (go_at_call 15; refine (awake13_any _).mono ?_; rintro e w9 ⟨rfl, hb9⟩; have HT9 := Lib.hid (HT8.out.on hb9); obtain ⟨l0, l1, l2⟩ := HT9.out.cells; clear hb9))
    go_wp2
    go_ret
    exact ⟨rfl, HT9.out.2.2⟩
  · have HL : Hid (leftZ o m k = m - nowZ o k) := if_neg hu
    have HU : Hid (upB o m k = false) := decide_eq_false hu
    have HO : Hid ((if m ≤ nowZ o k then o else offZ m k) = offZ m k) := if_neg hu
    have HJ : Hid (upB o m (IntKind.u64.wrap (k + (m - nowZ o k))) = true) := left_up HM.out.1 HM.out.2 hu
    have HJ1 : Hid (upB o m (IntKind.u64.wrap (IntKind.u64.wrap (k + (m - nowZ o k)) - 1)) = false) := left_ahead HM.out.1 HM.out.2 hu
    have hd : 0 < m - nowZ o k := by omega
    have HD : Hid (m - nowZ o k < 18446744073709551616) := by have := HM.out; have := HN.out; show _ < _; omega
    clear hu
    refine (tleft_any k W1 HT1.out.1 HM.out.1 HM.out.2).mono ?_
    rw [HL.out]
    rintro e w2 ⟨rfl, hq2⟩
    have HT2 := Lib.hid (HT1.out.q hq2)
    clear hq2
    generalize m - nowZ o k = n at *
    have hne : (n == 0) = false := by simp; omega
    obtain ⟨c0, c1, c2⟩ := HT2.out.cells
    go_wp2_with fail
    refine (rup13_any o m s k _).mono ?_
    rw [HU.out]
    rintro e w3 ⟨rfl, hb3⟩
    have HT3 := Lib.hid (HT2.out.on hb3)
    clear hb3 c0 c1 c2
    go_wp2_with fail
    refine (tup_any _ w3 HT3.out.1).mono ?_
    rw [HJ.out]
    rintro e w4 ⟨rfl, hq4⟩
    have HT4 := Lib.hid (HT3.out.q hq4)
    clear hq4
    go_wp2_with fail
    refine (tup_any _ w4 HT4.out.1).mono ?_
    rw [HJ1.out]
    rintro e w5 ⟨rfl, hq5⟩
    have HT5 := Lib.hid (HT4.out.q hq5)
    clear hq5
    go_wp2_with fail
    refine (tskip_any k w5 HT5.out.1).mono ?_
    rw [HO.out]
    rintro e w6 ⟨rfl, ht6, hb6⟩
    have HT6 : Hid (Two w w6 A B (offZ m k) m s o m s) := ⟨ht6, HT5.out.2.1.bar hb6 (by have := HNEW.out; omega), HT5.out.2.2.trans (hb6.below (by rw [HA.out]; exact Nat.le_refl _) HT5.out.2.2.size)⟩
    clear ht6 hb6
    obtain ⟨c0, c1, c2⟩ := HT6.out.cells
    go_wp2_with fail
    go_region_held3 (fun w' => w'.cell? ⟨B, 0, none⟩ = some (.int .u64 o) ∧ w'.cell? ⟨B, 1, none⟩ = some (.int .u64 m) ∧ w'.cell? ⟨B, 2, none⟩ = some (.bool s)) (first | (refine ⟨?_, ?_, ?_⟩ <;> assumption) | simp)
      (first
        | (go_at_call 7; refine (of13_any _ HT6.out.drew.1).mono ?_; rintro e w7 ⟨rfl, hb7⟩; have HT7 := Lib.hid (HT6.out.drew.on hb7); obtain ⟨h0, h1, h2⟩ := HT7.out.cells; clear hb7)
        | (go_at_call 21; refine (rskip13_any o m s k _).mono ?_; rw [HO.out]; rintro e w8 ⟨rfl, hb8⟩; have HT8 := Lib.hid (HT7.out.on hb8); obtain ⟨i0, i1, i2⟩ := HT8.out.cells; clear hb8)
        | (go_at_call 13; refine (tup_any k _ HT8.out.1).mono ?_; rw [HSU.out]; rintro e w9 ⟨rfl, hq9⟩; have HT9 := Lib.hid (HT8.out.q hq9); obtain ⟨j0, j1, j2⟩ := HT9.out.cells; clear hq9)
        | (go_at_call 15; refine (awake13_any _).mono ?_; rintro e w10 ⟨rfl, hb10⟩; have HT10 := Lib.hid (HT9.out.on hb10); obtain ⟨l0, l1, l2⟩ := HT10.out.cells; clear hb10))
    go_wp2
    go_ret
    exact ⟨rfl, HT10.out.2.2⟩
end timerSkips
end Go.Proofs.Ytkdofmdiblpajaa
