/- Layer 14: the walk of BusNils. -/
import Derived.Test.YtkbccccjjlkgbaaBusCalls
namespace Go.Proofs.Ytkbccccjjlkgbaa
open Go.RowKit
set_option linter.unusedVariables false
set_option linter.unusedSimpArgs false
set_option maxRecDepth 100000

namespace busNils
set_option maxHeartbeats 3200000 in
theorem walk (a n v : Int) (w : World) (w0 : (Lit.int .u32 a).wf = true) (w1 : (Lit.int .i64 n).wf = true) (w2 : (Lit.int .u32 v).wf = true) :
    Calls Try.prog 6 #[.int .u32 a, .int .i64 n, .int .u32 v] w fun e w' => e = .returned (.bool true) ∧ Below w.heap.size w w' := by
  have HN : Hid (∀ W : World, Calls Try.prog 23 #[.int .i64 64] W fun e w' => ∃ R, e = .returned (.tuple #[.pointer (some ⟨R, 0, none⟩), .int .i64 0]) ∧ W.heap.size ≤ R ∧ (∃ P, W.heap.size ≤ P ∧ IsRam w' R P 1 (fun _ => 0) (fun _ => false) (fun _ => 0)) ∧ Below W.heap.size W w') := fun W => new_yes 1 W (by omega) (by omega)
  have HC : Hid (∀ W, Calls Try.prog 24 #[.slice none 0 0] W fun e w' => ∃ R S, e = .returned (.tuple #[.pointer (some ⟨R, 0, none⟩), .int .i64 0]) ∧ IsCon w' R S 0 (fun _ => 0) (fun _ => 0) CS.new ∧ (∀ k, S k → W.heap.size ≤ k) ∧ Below W.heap.size W w') := fun W => cnew_yes W (by omega) (IsArr.nil _ _ _) (fun i hi => absurd hi (by omega))
  clear w0 w1 w2
  go_enter Try.func6, Try.ntmps6
  go_wp2_with fail
  refine (bload_nil a n 1 w).mono ?_
  rintro e w' ⟨rfl, hw⟩
  have hw := hw.symm
  subst hw
  go_wp2_with fail
  refine (bstore_nil a n v 1 w).mono ?_
  rintro e w' ⟨rfl, hw⟩
  have hw := hw.symm
  subst hw
  go_wp2_with fail
  refine (boff_nil w).mono ?_
  rintro e w' ⟨rfl, hw⟩
  have hw := hw.symm
  subst hw
  go_wp2_with fail
  refine (HN.out w).mono ?_
  rintro e w1 ⟨R, rfl, -, -, hb⟩
  have HB1 := Lib.hid hb
  clear hb
  go_wp2_with fail
  refine (HC.out w1).mono ?_
  rintro e w2 ⟨C, S, rfl, -, -, hb⟩
  have HB2 : Hid (Below w.heap.size w w2) := HB1.out.trans (hb.mono HB1.out.size)
  clear hb
  go_wp2_with fail
  refine (tnew_any w2).mono ?_
  rintro e w3 ⟨rfl, -, hb⟩
  have HB3 : Hid (Below w.heap.size w w3) := HB2.out.trans (hb.mono HB2.out.size)
  clear hb
  go_wp2_with fail
  refine (bnew_no w3 (.inl rfl)).mono ?_
  rintro e w' ⟨rfl, hw⟩
  have hw := hw.symm
  subst hw
  go_wp2_with fail
  refine (tnew_any w3).mono ?_
  rintro e w4 ⟨rfl, -, hb⟩
  have HB4 : Hid (Below w.heap.size w w4) := HB3.out.trans (hb.mono HB3.out.size)
  clear hb
  go_wp2_with fail
  refine (bnew_no w4 (.inr (.inl rfl))).mono ?_
  rintro e w' ⟨rfl, hw⟩
  have hw := hw.symm
  subst hw
  go_wp2_with fail
  refine (bnew_no w4 (.inr (.inr rfl))).mono ?_
  rintro e w' ⟨rfl, hw⟩
  have hw := hw.symm
  subst hw
  go_wp2_with fail
  refine (bcalls_nil 1 w4).mono ?_
  rintro e w5 ⟨rfl, hq⟩
  have HB5 : Hid (Below w.heap.size w w5) := HB4.out.trans (hq.below _)
  clear hq
  go_wp2_with fail
  refine (class_nil a n w5).mono ?_
  rintro e w' ⟨rfl, hw⟩
  have hw := hw.symm
  subst hw
  go_wp2_with fail
  refine (bram_nil w5).mono ?_
  rintro e w' ⟨rfl, hw⟩
  have hw := hw.symm
  subst hw
  go_wp2_with fail
  refine (bcon_nil w5).mono ?_
  rintro e w' ⟨rfl, hw⟩
  have hw := hw.symm
  subst hw
  go_wp2_with fail
  refine (btim_nil w5).mono ?_
  rintro e w' ⟨rfl, hw⟩
  have hw := hw.symm
  subst hw
  go_wp2_with fail
  refine (awake14_any w5).mono ?_
  rintro e w6 ⟨rfl, hb⟩
  have HB6 : Hid (Below w.heap.size w w6) := HB5.out.trans (hb.mono HB5.out.size)
  clear hb
  go_wp2
  go_ret
  exact ⟨rfl, HB6.out⟩
end busNils
end Go.Proofs.Ytkbccccjjlkgbaa
