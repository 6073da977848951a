/- Layer 13: awake; the walk of TimerNils. -/
import Derived.Test.YtkdofmdiblpajaaFrame
import Derived.Test.YtkdofmdiblpajaaTimRef
namespace Go.Proofs.Ytkdofmdiblpajaa
open Go.RowKit
set_option linter.unusedVariables false

set_option maxHeartbeats 1600000 in
theorem awake13_any (w : World) :
    Calls Try.prog 15 #[] w fun e w' => e = .returned (.bool true) ∧ Below w.heap.size w w' := by
  have hb0 : Below w.heap.size w (w.alloc (.cells #[.int .u64 0, .int .u64 10, .bool false] 24)) := (Below.refl _ _).alloc (Nat.le_refl _) _
  have ht0 : IsTim (w.alloc (.cells #[.int .u64 0, .int .u64 10, .bool false] 24)) w.heap.size 0 10 false := heap_alloc_new _ _
  go_enter Try.func15, Try.ntmps15
  go_wp2_with fail
  generalize w.alloc (.cells #[.int .u64 0, .int .u64 10, .bool false] 24) = W at *
  refine (tleft_any 7 W ht0 (by decide) (by decide)).mono ?_
  rw [show leftZ 0 10 7 = 3 from by decide]
  rintro e w1 ⟨rfl, hq1⟩
  have HB1 := Lib.hid (hb0.trans ((hq1.below _)))
  have HT1 := Lib.hid (ht0.q hq1)
  clear hb0 ht0 hq1
  go_wp2_with fail
  refine (tup_any 7 w1 HT1.out).mono ?_
  rw [show upB 0 10 7 = false from by decide]
  rintro e w2 ⟨rfl, hq2⟩
  have HB2 := Lib.hid (HB1.out.trans ((hq2.below _)))
  have HT2 := Lib.hid (HT1.out.q hq2)
  clear hq2
  go_wp2_with fail
  refine (tskip_any 7 w2 HT2.out).mono ?_
  rw [show (if (10 : Int) ≤ nowZ 0 7 then (0 : Int) else offZ 10 7) = 3 from by decide]
  rintro e w3 ⟨rfl, ht3, hb3⟩
  have HB3 := Lib.hid (HB2.out.trans (hb3.below (Nat.le_refl _) HB2.out.size))
  have HT3 := Lib.hid ht3
  clear ht3 hb3
  go_wp2_with fail
  refine (tup_any 7 w3 HT3.out).mono ?_
  rw [show upB 3 10 7 = true from by decide]
  rintro e w4 ⟨rfl, hq4⟩
  have HB4 := Lib.hid (HB3.out.trans ((hq4.below _)))
  have HT4 := Lib.hid (HT3.out.q hq4)
  clear hq4
  go_wp2_with fail
  refine (tnow_any 7 w4 HT4.out).mono ?_
  rw [show nowZ 3 7 = 10 from by decide]
  rintro e w' ⟨rfl, hw⟩
  have hw := hw.symm
  subst hw
  go_wp2_with fail
  refine (thas_any 33603580 w4).mono ?_
  rw [show hasT 33603580 = true from by decide]
  rintro e w' ⟨rfl, hw⟩
  have hw := hw.symm
  subst hw
  go_wp2_with fail
  refine (tnew_any w4).mono ?_
  rintro e w5 ⟨rfl, ht5, hb5⟩
  have HB5 := Lib.hid (HB4.out.trans (hb5.mono HB4.out.size))
  obtain ⟨⟨q0, q1, q2⟩, -⟩ := three_cells ht5
  clear ht5 hb5
  go_wp2
  go_ret
  exact ⟨rfl, HB5.out⟩

namespace timerNils
set_option maxHeartbeats 1600000 in
theorem walk (a x k : Int) (w : World) (w0 : (Lit.int .u32 a).wf = true) (w1 : (Lit.int .u32 x).wf = true) (w2 : (Lit.int .u64 k).wf = true) :
    Calls Try.prog 6 #[.int .u32 a, .int .u32 x, .int .u64 k] w fun e w' => e = .returned (.bool true) ∧ Below w.heap.size w w' := by
  clear w0 w1 w2
  go_enter Try.func6, Try.ntmps6
  go_wp2_with fail
  refine (tskip_nil k w).mono ?_
  rintro e w' ⟨rfl, hw⟩
  have hw := hw.symm
  subst hw
  go_wp2_with fail
  refine (tread_nil a k w).mono ?_
  rintro e w' ⟨rfl, hw⟩
  have hw := hw.symm
  subst hw
  go_wp2_with fail
  refine (twrite_nil a x k w).mono ?_
  rintro e w1 ⟨rfl, hb1⟩
  have HB1 := Lib.hid hb1
  clear hb1
  go_wp2_with fail
  refine (tnow_nil k w1).mono ?_
  rintro e w' ⟨rfl, hw⟩
  have hw := hw.symm
  subst hw
  go_wp2_with fail
  refine (tup_nil k w1).mono ?_
  rintro e w2 ⟨rfl, hq2⟩
  have HB2 := Lib.hid (HB1.out.trans (hq2.below _))
  clear hq2
  go_wp2_with fail
  refine (tleft_nil k w2).mono ?_
  rintro e w' ⟨rfl, hw⟩
  have hw := hw.symm
  subst hw
  go_wp2_with fail
  refine (tnew_any w2).mono ?_
  rintro e w3 ⟨rfl, ht3, hb3⟩
  have HT3 := Lib.hid ht3
  have HB3 := Lib.hid (HB2.out.trans (hb3.mono HB2.out.size))
  clear ht3 hb3
  go_wp2_with fail
  refine (of13_any w3 HT3.out).mono ?_
  rintro e w4 ⟨rfl, hb4⟩
  have HB4 := Lib.hid (HB3.out.trans (hb4.mono HB3.out.size))
  clear hb4
  go_wp2_with fail
  refine (rnew13_any w4).mono ?_
  rintro e w5 ⟨rfl, hb5⟩
  have HB5 := Lib.hid (HB4.out.trans (hb5.mono HB4.out.size))
  clear hb5
  go_wp2_with fail
  refine (awake13_any w5).mono ?_
  rintro e w6 ⟨rfl, hb6⟩
  have HB6 := Lib.hid (HB5.out.trans (hb6.mono HB5.out.size))
  clear hb6
  go_wp2
  go_ret
  exact ⟨rfl, HB6.out⟩
end timerNils
end Go.Proofs.Ytkdofmdiblpajaa
