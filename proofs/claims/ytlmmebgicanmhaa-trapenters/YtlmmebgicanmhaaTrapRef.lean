/- Layer 17, the document's side: Enter and Return. -/
import Derived.Test.YtlmmebgicanmhaaTrapEnt
namespace Go.Proofs.Ytlmmebgicanmhaa
open Go.RowKit
set_option linter.unusedVariables false
set_option linter.unusedSimpArgs false

set_option maxHeartbeats 3000000 in
set_option maxRecDepth 100000 in
theorem rret17_any (K : Nat → Int) (w : World) (hk : KsB K) :
    Calls Try.prog 13 #[.agg #[.int .u32 (K 0), .int .u32 (K 1), .int .u32 (K 2), .int .u32 (K 3), .int .u32 (K 4), .int .u32 (K 5), .int .u32 (K 6)]] w fun e w' => e = .returned (.tuple #[.agg #[.int .u32 ((retK K) 0), .int .u32 ((retK K) 1), .int .u32 ((retK K) 2), .int .u32 ((retK K) 3), .int .u32 ((retK K) 4), .int .u32 ((retK K) 5), .int .u32 ((retK K) 6)], .int .u32 (K 4)]) ∧ Below w.heap.size w w' := by
  have hz : putOf (putOf (K 0) 3 1 (bitsOf (K 0) 7 1)) 7 1 1 = retK K 0 := rfl
  have HB : Hid (∀ a b : Obj, Below w.heap.size w ((w.alloc a).alloc b)) := two_allocs w
  have HK : Hid (W32 (K 0)) := hk 0 (by omega)
  have HY : Hid (W32 (putOf (K 0) 3 1 (bitsOf (K 0) 7 1))) := (put_bd (hk 0 (by omega)).1 (hk 0 (by omega)).2).1
  have HD : Hid (0 ≤ bitsOf (K 0) 7 1 ∧ bitsOf (K 0) 7 1 < 2) := bit_bd _ _
  have HZ := Lib.hid hz
  clear hk hz
  have hsd : ∀ (W : World) (n : Nat) (a : Addr) (v : Value), (W.drewN n).setCell a v = (W.setCell a v).drewN n := fun _ _ _ _ => rfl
  go_enter Try.func13, Try.ntmps13
  go_wp2_with fail
  go_region_with (first
    | (go_at_call 20; refine (rbit_gen _ _ _ HK.out (by omega)).mono ?_; rintro e w1 ⟨rfl, k1, rfl⟩)
    | (go_at_call 19; refine (rput_gen _ _ _ _ (by first | with_reducible exact HK.out | with_reducible exact HY.out) (by omega) (by first | with_reducible exact HD.out | omega)).mono ?_; rintro e w2 ⟨rfl, k2, rfl⟩))
  all_goals
    generalize putOf (putOf (K 0) 3 1 (bitsOf (K 0) 7 1)) 7 1 1 = z at *
    go_wp2_with fail
    go_region
    go_wp2
    refine bodyPost_ret (v := .tuple #[.agg #[.int .u32 ((retK K) 0), .int .u32 ((retK K) 1), .int .u32 ((retK K) 2), .int .u32 ((retK K) 3), .int .u32 ((retK K) 4), .int .u32 ((retK K) 5), .int .u32 ((retK K) 6)], .int .u32 (K 4)]) (by simp [results, Try.results13, go_sem, HZ.out, retK]) rfl ?_
    exact ⟨rfl, (below_drewN (HB.out _ _) _)⟩

/-- Numbers of Enter, as the document reckons. -/
theorem rat_plain {t c : Int} (ht : W32 t) : IntKind.u64.wrap t = t ∧ t.tdiv 4 = t / 4 ∧ IntKind.u64.wrap (t / 4) = t / 4 ∧ IntKind.u64.wrap (t / 4 * 4) = t / 4 * 4 := by
  unfold W32 at ht
  rw [IntKind.wrap_u64, IntKind.wrap_u64, IntKind.wrap_u64, Int.tdiv_eq_ediv_of_nonneg ht.1]
  omega
theorem rat_near {t c : Int} (ht : W32 t) (h : ¬ (2147483648 ≤ c ∧ t % 2 = 1)) : (t / 4 * 4).tmod 4294967296 = atZ t c ∧ atZ t c % 4294967296 = atZ t c := by
  unfold W32 at ht
  unfold atZ
  rw [if_neg h, Int.tmod_eq_emod_of_nonneg (by omega)]
  omega
theorem rat_far {t c : Int} (ht : W32 t) (hc : W32 c) (h : 2147483648 ≤ c) (hp : t % 2 = 1) : IntKind.u64.wrap c = c ∧ IntKind.u64.wrap (c - 2147483648) = c - 2147483648 ∧ IntKind.u64.wrap (4 * (c - 2147483648)) = 4 * (c - 2147483648) ∧ IntKind.u64.wrap (t / 4 * 4 + 4 * (c - 2147483648)) = t / 4 * 4 + 4 * (c - 2147483648) ∧ (t / 4 * 4 + 4 * (c - 2147483648)).tmod 4294967296 = atZ t c ∧ atZ t c % 4294967296 = atZ t c := by
  unfold W32 at ht hc
  unfold atZ
  rw [if_pos ⟨h, hp⟩, IntKind.wrap_u64, IntKind.wrap_u64, IntKind.wrap_u64, IntKind.wrap_u64, Int.tmod_eq_emod_of_nonneg (by omega)]
  omega
theorem rcalled_is {c : Int} (hc : W32 c) : (bitsOf c 31 1 == 1) = decide (2147483648 ≤ c) := by
  unfold W32 at hc
  rw [(bit_num c).2.2.2.2]
  by_cases h : 2147483648 ≤ c
  · rw [show c / 2147483648 % 2 = 1 from by omega, decide_eq_true h]; rfl
  · rw [show c / 2147483648 % 2 = 0 from by omega, decide_eq_false h]; rfl
theorem rapart_is (t : Int) : (bitsOf t 0 1 == 1) = decide (t % 2 = 1) := by
  rw [(bit_num t).1]
  by_cases h : t % 2 = 1
  · rw [decide_eq_true h, h]; rfl
  · rw [decide_eq_false h, show t % 2 = 0 from by omega]; rfl

end Go.Proofs.Ytlmmebgicanmhaa
