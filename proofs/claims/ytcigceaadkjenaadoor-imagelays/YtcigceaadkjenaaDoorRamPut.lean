/- Layer 10, the document's side: Put. -/
import Derived.Test.YtcigceaadkjenaaDoorRamRef
namespace Go.Proofs.YtcigceaadkjenaaDoor
open Go.RowKit
set_option linter.unusedVariables false
set_option maxRecDepth 100000

theorem put_three (b f : Nat → Int) (a len N : Nat) (h : a + len ≤ N) : rowL a b ++ rowL len f ++ rowL (N - (a + len)) (fun i => b (a + len + i)) = rowL N (bput b a len f) := by
  rw [rowL_append, rowL_append, show a + len + (N - (a + len)) = N from by omega]
  refine rowL_same fun i hi => ?_
  unfold bput
  by_cases c : i < a
  · rw [if_pos (by omega), if_pos c, if_neg (by omega)]
  · by_cases d : i < a + len
    · rw [if_pos d, if_neg c, if_pos (by omega)]
    · rw [if_neg d, if_neg (by omega)]; congr 1; omega

set_option maxHeartbeats 2000000 in
theorem rput10_any (K a : Nat) (addr : Int) (B cap xb xo len xcap : Nat) (b f : Nat → Int) (w : World) (hK : K ≤ 1024) (hB : RowB w B (64 * K) b) (ha : addr = 2147483648 + (a : Int)) (hl : 1 ≤ len) (hfit : a + len ≤ 64 * K) (hcap : 64 * K ≤ cap)
    (hsrc : ∀ i, i < len → w.cell? ⟨xb, xo + i, none⟩ = some (.int .u8 (f i))) :
    Calls Tryd.prog 31 #[.slice (some ⟨B, 0, none⟩) (64 * K) cap, .int .u32 addr, .slice (some ⟨xb, xo, none⟩) len xcap] w fun e w' => ∃ B' c, e = .returned (.slice (some ⟨B', 0, none⟩) (64 * K) c) ∧ (64 * K ≤ c ∧ w.heap.size ≤ B' ∧ RowB w' B' (64 * K) (bput b a len f)) ∧ Below w.heap.size w w' := by
  have h0 : 0 ≤ addr := by omega
  have h1 : addr < 2147549184 := by omega
  have e1 : addr - 2147483648 = (a : Int) := by omega
  have hbs : ∀ w : World, (Instr.buildSlice 30 0 #[]).run Tryd.prog w = .ok (.slice (some ⟨w.heap.size, 0, none⟩) 0 0) (w.alloc (.cells #[] 5)) := fun _ => by kernel_rfl
  have hsz : ∀ w : World, (sizeOf (Tryd.prog.elem 30)).run Tryd.prog w = .ok 1 w := fun _ => by kernel_rfl
  have hs1 : ∀ w : World, (Instr.sliceAt 30 (.slice (some ⟨B, 0, none⟩) (64 * K) cap) none (some (.int .i64 (a : Int))) none).run Tryd.prog w = .ok (.slice (some ⟨B, 0, none⟩) a cap) w := fun w => by
    rw [run_sliceAt_slice w _ _ _ _ _ Tryd.underlying30, run_slice_h w _ _ _ _ Tryd.underlying30 .i64 _ (by omega) (by omega), hsz]
    simp only [Result.andThen, sliced]
    rw [show ((a : Int)).toNat = a from by omega, if_neg (by omega)]
    simp [Addr.add_lit]
  obtain ⟨ad, had, hs2⟩ : ∃ ad : Addr, (64 * K - (a + len) > 0 → ad = ⟨B, a + len, none⟩) ∧ ∀ w : World, (Instr.sliceAt 30 (.slice (some ⟨B, 0, none⟩) (64 * K) cap) (some (.int .i64 ((a : Int) + (len : Int)))) none none).run Tryd.prog w = .ok (.slice (some ad) (64 * K - (a + len)) (cap - (a + len))) w := by
    refine ⟨if cap = a + len then ⟨B, 0, none⟩ else ⟨B, a + len, none⟩, fun h => by rw [if_neg (by omega)], fun w => ?_⟩
    rw [run_sliceAt_slice w _ _ _ _ _ Tryd.underlying30, run_slice_l w _ _ _ _ Tryd.underlying30 .i64 _ (by omega) (by omega), hsz]
    simp only [Result.andThen, sliced]
    rw [show ((a : Int) + (len : Int)).toNat = a + len from by omega]
    by_cases c : cap = a + len
    · rw [if_pos c, if_pos c]
    · rw [if_neg c, if_neg c]; simp [Addr.add_lit]
  have hwr : IntKind.i64.wrap ((a : Int) + (len : Int)) = (a : Int) + (len : Int) := by rw [IntKind.wrap_i64]; omega
  have HAD := Lib.hid had
  have HB := Lib.hid hB
  have HS := Lib.hid hsrc
  have HF : Hid (a + len ≤ 64 * K) := hfit
  have HC : Hid (64 * K ≤ cap) := hcap
  have hl1 : len ≤ 65536 := by omega
  have ha1 : a ≤ 65536 := by omega
  have h2 : (a : Int) + (len : Int) ≤ 65536 := by omega
  obtain ⟨i0, hi, hz0, hz1, hz2⟩ := info_parts Tryd.info5
  clear had hB hsrc hfit hcap ha hsz
  go_enter Tryd.func31, Tryd.ntmps31
  go_wp2_with fail
  have HA1 : Hid (∀ w1 : World, Below w.heap.size w w1 → ∀ j u, (rowL a b)[j]? = some u → w1.cell? ((⟨B, 0, none⟩ : Addr).add j) = some u) := fun w1 hb j u hj => by
    obtain ⟨h3, rfl⟩ := rowL_get hj
    have hc := HB.out j (by have := HF.out; omega)
    rw [Addr.add_lit, Nat.zero_add, hb.cell (World.block_lt_of_cell? w _ hc)]; exact hc
  have HA2 : Hid (∀ w1 : World, Below w.heap.size w w1 → ∀ j u, (rowL len f)[j]? = some u → w1.cell? ((⟨xb, xo, none⟩ : Addr).add j) = some u) := fun w1 hb j u hj => by
    obtain ⟨h3, rfl⟩ := rowL_get hj
    have hc := HS.out j h3
    rw [Addr.add_lit, hb.cell (World.block_lt_of_cell? w _ hc)]; exact hc
  have HA3 : Hid (∀ w1 : World, Below w.heap.size w w1 → ∀ j u, (rowL (64 * K - (a + len)) (fun i => b (a + len + i)))[j]? = some u → w1.cell? (ad.add j) = some u) := fun w1 hb j u hj => by
    obtain ⟨h3, rfl⟩ := rowL_get hj
    have hc := HB.out (a + len + j) (by omega)
    rw [HAD.out (by omega), Addr.add_lit, hb.cell (World.block_lt_of_cell? w _ hc)]; exact hc
  have hB0 : Below w.heap.size w (w.drew.alloc (.cells #[] 5)) := ((Below.refl w.heap.size w).drew).alloc (Nat.le_refl _) _
  have HB0 := Lib.hid hB0
  have HO0 : Hid ((w.drew.alloc (.cells #[] 5)).ownsRow w.heap.size 5 1 (.slice (some ⟨w.heap.size, 0, none⟩) 0 0) 0 []) := World.ownsRow_made w.drew #[] 0 (Nat.le_refl _) (by decide) rfl
  clear hB0
  go_region_law (first
    | (refine step_append_own rfl (.tmp 11) (.tmp 14) 30 rfl w.heap.size 5 i0 (.int .u8 0) 1 1 Tryd.underlying30 hi hz0 hz1 hz2 rfl (by decide) _ 0 [] rfl HO0.out ⟨B, 0, none⟩ a cap (rowL a b) rfl (by rw [rowL_length]; omega) (HA1.out _ HB0.out) (rowL_one _ _) (by unfold maxLen; omega) (by omega) HB0.out.size ?_
       intro v1 w1 hown1 hgr1 _
       have HO1 : Hid (w1.ownsRow w.heap.size 5 1 v1 a (rowL a b)) := by have h := hown1; rw [Nat.zero_add, List.nil_append] at h; exact h
       have HB1 : Hid (Below w.heap.size w w1) := HB0.out.grown hgr1 HB0.out.size (fun j hj => (HO0.out.lt j hj).1)
       clear hown1 hgr1)
    | (refine step_append_own rfl (.tmp 15) (.tmp 16) 30 rfl w.heap.size 5 i0 (.int .u8 0) 1 1 Tryd.underlying30 hi hz0 hz1 hz2 rfl (by decide) _ a (rowL a b) rfl HO1.out ⟨xb, xo, none⟩ len xcap (rowL len f) rfl (by rw [rowL_length]; omega) (HA2.out _ HB1.out) (rowL_one _ _) (by unfold maxLen; omega) (by omega) HB1.out.size ?_
       intro v2 w2 hown2 hgr2 _
       have HO2 := Lib.hid hown2
       have HB2 : Hid (Below w.heap.size w w2) := HB1.out.grown hgr2 HB1.out.size (fun j hj => (HO1.out.lt j hj).1)
       clear hown2 hgr2)
    | (refine step_append_own rfl (.tmp 17) (.tmp 23) 30 rfl w.heap.size 5 i0 (.int .u8 0) 1 1 Tryd.underlying30 hi hz0 hz1 hz2 rfl (by decide) _ (a + len) (rowL a b ++ rowL len f) rfl HO2.out ad (64 * K - (a + len)) (cap - (a + len)) (rowL (64 * K - (a + len)) (fun i => b (a + len + i))) rfl (by rw [rowL_length]; omega) (HA3.out _ HB2.out) (rowL_one _ _) (by unfold maxLen; omega) (by omega) HB2.out.size ?_
       intro v3 w3 hown3 hgr3 _
       have HO3 : Hid (w3.ownsRow w.heap.size 5 1 v3 (64 * K) (rowL (64 * K) (bput b a len f))) := by have h := hown3; rw [put_three b f a len (64 * K) HF.out, show a + len + (64 * K - (a + len)) = 64 * K from by have := HF.out; omega] at h; exact h
       have HB3 : Hid (Below w.heap.size w w3) := HB2.out.grown hgr3 HB2.out.size (fun j hj => (HO2.out.lt j hj).1)
       clear hown3 hgr3))
  all_goals
    obtain ⟨B', c, rfl, hc1, hc2, hc3⟩ := row_of_own HO3.out (by have := HF.out; omega)
    go_wp2
    go_ret
    exact ⟨B', c, rfl, ⟨hc1, hc2, hc3⟩, HB3.out⟩
end Go.Proofs.YtcigceaadkjenaaDoor
