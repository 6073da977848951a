/- Layer 17, the document's side: Enter, at the one address. -/
import Derived.Test.YtlmmebgicanmhaaTrapRef
namespace Go.Proofs.Ytlmmebgicanmhaa
open Go.RowKit
set_option linter.unusedVariables false
set_option linter.unusedSimpArgs false

set_option maxHeartbeats 6000000 in
set_option maxRecDepth 100000 in
theorem renter17_near (K : Nat → Int) (pc c v : Int) (w : World) (hk : KsB K) (hc0 : W32 c) (h : 2147483648 ≤ c) (g : ¬ K 2 % 2 = 1) :
    Calls Try.prog 8 #[.agg #[.int .u32 (K 0), .int .u32 (K 1), .int .u32 (K 2), .int .u32 (K 3), .int .u32 (K 4), .int .u32 (K 5), .int .u32 (K 6)], .int .u32 pc, .int .u32 c, .int .u32 v] w fun e w' => e = .returned (.tuple #[.agg #[.int .u32 ((entK K pc c v) 0), .int .u32 ((entK K pc c v) 1), .int .u32 ((entK K pc c v) 2), .int .u32 ((entK K pc c v) 3), .int .u32 ((entK K pc c v) 4), .int .u32 ((entK K pc c v) 5), .int .u32 ((entK K pc c v) 6)], .int .u32 (atZ (K 2) c)]) ∧ Below w.heap.size w w' := by
  have hz : putOf (putOf (K 0) 7 1 (bitsOf (K 0) 3 1)) 3 1 0 = entK K pc c v 0 := rfl
  have HB : Hid (∀ a b : Obj, Below w.heap.size w ((w.alloc a).alloc b)) := two_allocs w
  have HK : Hid (W32 (K 0)) := hk 0 (by omega)
  have HY : Hid (W32 (putOf (K 0) 7 1 (bitsOf (K 0) 3 1))) := (put_bd (hk 0 (by omega)).1 (hk 0 (by omega)).2).2
  have HD : Hid (0 ≤ bitsOf (K 0) 3 1 ∧ bitsOf (K 0) 3 1 < 2) := bit_bd _ _
  have HZ := Lib.hid hz
  have ht : W32 (K 2) := hk 2 (by omega)
  have hc := rcalled_is hc0
  have hp := rapart_is (K 2)
  obtain ⟨t0, t1, t2, t3⟩ := rat_plain (c := c) ht
  rw [decide_eq_true h] at hc
  rw [decide_eq_false g] at hp
  obtain ⟨f0, f1⟩ := rat_near (c := c) ht (fun q => g q.2)
  clear h g
  have HT := Lib.hid ht
  have HC := Lib.hid hc0
  clear hk hz hc0 ht
  have hsd : ∀ (W : World) (n : Nat) (a : Addr) (v : Value), (W.drewN n).setCell a v = (W.setCell a v).drewN n := fun _ _ _ _ => rfl
  go_enter Try.func8, Try.ntmps8
  go_wp2_with fail
  go_region_with (first
    | (go_at_call 20; refine (rbit_gen _ _ _ HK.out (by omega)).mono ?_; rintro e w1 ⟨rfl, k1, rfl⟩)
    | (go_at_call 19; refine (rput_gen _ _ _ _ (by first | with_reducible exact HK.out | with_reducible exact HY.out) (by omega) (by first | with_reducible exact HD.out | omega)).mono ?_; rintro e w2 ⟨rfl, k2, rfl⟩))
  all_goals
    generalize putOf (putOf (K 0) 7 1 (bitsOf (K 0) 3 1)) 3 1 0 = z at *
    go_wp2_with fail
    refine (rbit_gen _ _ _ HC.out (by omega)).mono ?_
    rintro e w3 ⟨rfl, k3, rfl⟩
    go_wp2_with fail
    refine (rbit_gen _ _ _ HT.out (by omega)).mono ?_
    rintro e w4 ⟨rfl, k4, rfl⟩
    go_wp2
    refine bodyPost_ret (v := .tuple #[.agg #[.int .u32 ((entK K pc c v) 0), .int .u32 ((entK K pc c v) 1), .int .u32 ((entK K pc c v) 2), .int .u32 ((entK K pc c v) 3), .int .u32 ((entK K pc c v) 4), .int .u32 ((entK K pc c v) 5), .int .u32 ((entK K pc c v) 6)], .int .u32 (atZ (K 2) c)]) (by simp [results, Try.results8, go_sem, HZ.out, entK]) rfl ?_
    exact ⟨rfl, (below_drewN (HB.out _ _) _)⟩
end Go.Proofs.Ytlmmebgicanmhaa
