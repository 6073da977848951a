/- Layer 3: what mimesisref03's Decode answers of any word. -/
import Derived.Test.YtakomdopeadcjaaDoorDecRef
import Derived.Test.YtakomdopeadcjaaDoorDecPat
namespace Go.Proofs.YtakomdopeadcjaaDoor
open Go.RowKit
set_option linter.unusedVariables false

/-- Block B holds the patterns. -/
def PatAt (w : World) (B : Nat) : Prop := ∀ j, j < 57 → w.cell? ⟨B, j * 2, none⟩ = some (.int .u32 (maskL.getD j 0)) ∧ w.cell? ⟨B, j * 2 + 1, none⟩ = some (.int .u32 (matchL.getD j 0))
theorem patAt_new (w : World) (t : TypeId) : PatAt (w.alloc (.cells patCells t)) w.heap.size := fun j hj => by
  have h := patCells_at j hj
  rw [Nat.mul_comm] at h
  constructor
  · rw [World.cell?_alloc_at _ _ _ _ rfl]; exact h.1
  · rw [World.cell?_alloc_at _ _ _ _ rfl]; exact h.2

theorem q_alloc {V W' : World} {o : Obj} (h : Q (V.alloc o) W') : ∃ V', Q V V' ∧ W' = V'.alloc o := by
  obtain ⟨k, rfl⟩ := h
  exact ⟨V.drewN k, ⟨k, rfl⟩, rfl⟩
theorem q_alloc2 {V W' : World} {o p : Obj} (h : Q ((V.alloc o).alloc p) W') : ∃ V', Q V V' ∧ W' = (V'.alloc o).alloc p := by
  obtain ⟨U, hu, rfl⟩ := q_alloc h
  obtain ⟨V', hv, rfl⟩ := q_alloc hu
  exact ⟨V', hv, rfl⟩
theorem q_alloc3 {V W' : World} {o p r : Obj} (h : Q (((V.alloc o).alloc p).alloc r) W') : ∃ V', Q V V' ∧ W' = ((V'.alloc o).alloc p).alloc r := by
  obtain ⟨U, hu, rfl⟩ := q_alloc h
  obtain ⟨V', hv, rfl⟩ := q_alloc2 hu
  exact ⟨V', hv, rfl⟩
theorem Q.size {w w' : World} (h : Q w w') : w'.heap.size = w.heap.size := by obtain ⟨k, rfl⟩ := h; rfl

set_option maxHeartbeats 6000000 in
theorem rdec_any (x : Int) (w : World) (h0 : 0 ≤ x) (h1 : x < 4294967296) :
    Calls Tryd.prog 25 #[.int .u32 x] w fun e w' => e = .returned (insV x) ∧ Below w.heap.size w w' := by
  have HL : Hid (kindOf x < 58) := kind_lt x
  have HN : Hid (∀ j : Nat, j < 57 → j + 1 ≠ kindOf x → (bits .and .u32 x (maskL.getD j 0) != matchL.getD j 0) = true) := fun j hj hne => kind_first x h0 h1 (kindOf x) j rfl hj hne
  have HY : Hid (kindOf x ≠ 0 → bits .and .u32 x (maskL.getD (kindOf x - 1) 0) = matchL.getD (kindOf x - 1) 0) := kind_hit x h0 h1
  have f7 : ∀ w : World, Calls Tryd.prog 48 #[.int .u32 x, .int .i64 11, .int .i64 7] w fun e w' => e = .returned (.int .u32 (bitsOf x 7 5)) ∧ Q w w' := fun w => rb_any x 11 7 w h0 h1 (by omega) (by omega) (by omega)
  have f9 : ∀ w : World, Calls Tryd.prog 48 #[.int .u32 x, .int .i64 19, .int .i64 15] w fun e w' => e = .returned (.int .u32 (bitsOf x 15 5)) ∧ Q w w' := fun w => rb_any x 19 15 w h0 h1 (by omega) (by omega) (by omega)
  have f8 : ∀ w : World, Calls Tryd.prog 48 #[.int .u32 x, .int .i64 24, .int .i64 20] w fun e w' => e = .returned (.int .u32 (bitsOf x 20 5)) ∧ Q w w' := fun w => rb_any x 24 20 w h0 h1 (by omega) (by omega) (by omega)
  have fb : ∀ w : World, Calls Tryd.prog 48 #[.int .u32 x, .int .i64 31, .int .i64 20] w fun e w' => e = .returned (.int .u32 (bitsOf x 20 12)) ∧ Q w w' := fun w => rb_any x 31 20 w h0 h1 (by omega) (by omega) (by omega)
  have d1 := b5 x 7
  have d2 := b5 x 15
  have d3 := b5 x 20
  have d4 := b12 x 20
  go_enter Tryd.func25, Tryd.ntmps25
  go_wp2_with fail
  refine (patterns_any _).mono ?_
  rintro e w1 ⟨rfl, hw⟩
  have HP : Hid (PatAt w1 (w.heap.size + 1)) := by
    have := patAt_new (w.alloc (.cells #[.int .i64 0, .int .i64 0, .int .i64 0, .int .i64 0, .int .u32 0, .int .i64 0] 27)) 69
    rw [World.size_alloc] at this
    rw [hw]; exact this
  have HW : Hid (w1 = (w.alloc (.cells #[.int .i64 0, .int .i64 0, .int .i64 0, .int .i64 0, .int .u32 0, .int .i64 0] 27)).alloc (.cells patCells 69)) := hw
  clear hw
  go_wp2
  go_loopw [4] (fun i wr => ∃ k : Nat, k ≤ 57 ∧ (kindOf x ≠ 0 → k + 1 ≤ kindOf x) ∧ i = .int .i64 k ∧ Q w1 wr) (fun i _ => 57 - (intOf i).toNat)
  case atStart => exact ⟨0, by omega, by omega, rfl, Q.refl _⟩
  case round =>
    obtain ⟨k, hk, hkk, rfl, hq⟩ := hrel
    by_cases hlt : k < 57
    · have hp := HP.out k hlt
      have hpx : wr.cell? ⟨w.heap.size + 1, k * 2, none⟩ = some (.int .u32 (maskL.getD k 0)) := by
        obtain ⟨q, rfl⟩ := hq; exact hp.1
      have hpy : wr.cell? ⟨w.heap.size + 1, k * 2 + 1, none⟩ = some (.int .u32 (matchL.getD k 0)) := by
        obtain ⟨q, rfl⟩ := hq; exact hp.2
      clear hp
      by_cases hne : k + 1 = kindOf x
      · have hyy : (bits .and .u32 x (maskL.getD k 0) != matchL.getD k 0) = false := by
          have := HY.out (by omega)
          rw [← hne, Nat.add_sub_cancel] at this
          rw [this]; exact bne_self_eq_false _
        generalize maskL.getD k 0 = m at *
        generalize matchL.getD k 0 = t at *
        go_wp2
        go_quiet (fail)
        have hw := HW.out
        subst hw
        clear hpx hpy
        have hq0 := hq.drewN nq
        obtain ⟨V0, hQ0, hV⟩ := q_alloc2 hq0
        rw [hV]
        have s0 : V0.heap.size = w.heap.size := hQ0.size
        have hc : (k : Int) + 1 = (kindOf x : Int) := by omega
        have HL := HL.out
        have hzl := formZ_lt (kindOf x) HL
        clear hkk hne hyy HY HN HP hq hq0 hV
        go_wp2_with fail
        refine (rform_any (kindOf x) HL _).mono ?_
        rintro e w' ⟨rfl, hw⟩; subst hw
        generalize hz : formZ (kindOf x) = f at *
        go_wp2_with fail
        refine (rimm_any x f _ h0 h1 hzl).mono ?_
        rintro e w' ⟨rfl, hq'⟩
        obtain ⟨V1, hv1, rfl⟩ := q_alloc2 hq'
        have s1 : V1.heap.size = w.heap.size := hv1.size.trans s0
        have hQ1 := hQ0.trans hv1
        rcases form10 hzl with rfl | rfl | rfl | rfl | rfl | rfl | rfl | rfl | rfl | rfl
        · have hins : insV x = .agg #[.int .i64 (kindOf x), .int .i64 (0), .int .i64 (0), .int .i64 (0), .int .u32 (immOf x 0), .int .i64 (0)] := by unfold insV; rw [hz]; rfl
          have HI : Hid (insV x = .agg #[.int .i64 (kindOf x), .int .i64 (0), .int .i64 (0), .int .i64 (0), .int .u32 (immOf x 0), .int .i64 (0)]) := hins
          clear hins
          go_wp2
          refine bodyPost_ret (v := .agg #[.int .i64 (kindOf x), .int .i64 (0), .int .i64 (0), .int .i64 (0), .int .u32 (immOf x 0), .int .i64 (0)]) (by simp [results, Tryd.results25, go_sem, s1]) rfl ⟨by rw [HI.out], ?_⟩
          exact (((hQ1.below _).alloc (by omega) _).alloc (by simp; omega) _).alloc (by simp; omega) _
        · have hins : insV x = .agg #[.int .i64 (kindOf x), .int .i64 (bitsOf x 7 5), .int .i64 (0), .int .i64 (0), .int .u32 (immOf x 1), .int .i64 (0)] := by unfold insV; rw [hz]; rfl
          have HI : Hid (insV x = .agg #[.int .i64 (kindOf x), .int .i64 (bitsOf x 7 5), .int .i64 (0), .int .i64 (0), .int .u32 (immOf x 1), .int .i64 (0)]) := hins
          clear hins
          go_wp2_with fail
          refine (f7 _).mono ?_; rintro e w' ⟨rfl, hq'⟩
          obtain ⟨V2, hv2, rfl⟩ := q_alloc3 hq'
          have s2 : V2.heap.size = w.heap.size := hv2.size.trans s1
          have hQ2 := hQ1.trans hv2
          go_wp2
          refine bodyPost_ret (v := .agg #[.int .i64 (kindOf x), .int .i64 (bitsOf x 7 5), .int .i64 (0), .int .i64 (0), .int .u32 (immOf x 1), .int .i64 (0)]) (by simp [results, Tryd.results25, go_sem, s2]) rfl ⟨by rw [HI.out], ?_⟩
          exact (((hQ2.below _).alloc (by omega) _).alloc (by simp; omega) _).alloc (by simp; omega) _
        · have hins : insV x = .agg #[.int .i64 (kindOf x), .int .i64 (bitsOf x 7 5), .int .i64 (0), .int .i64 (0), .int .u32 (immOf x 2), .int .i64 (0)] := by unfold insV; rw [hz]; rfl
          have HI : Hid (insV x = .agg #[.int .i64 (kindOf x), .int .i64 (bitsOf x 7 5), .int .i64 (0), .int .i64 (0), .int .u32 (immOf x 2), .int .i64 (0)]) := hins
          clear hins
          go_wp2_with fail
          refine (f7 _).mono ?_; rintro e w' ⟨rfl, hq'⟩
          obtain ⟨V2, hv2, rfl⟩ := q_alloc3 hq'
          have s2 : V2.heap.size = w.heap.size := hv2.size.trans s1
          have hQ2 := hQ1.trans hv2
          go_wp2
          refine bodyPost_ret (v := .agg #[.int .i64 (kindOf x), .int .i64 (bitsOf x 7 5), .int .i64 (0), .int .i64 (0), .int .u32 (immOf x 2), .int .i64 (0)]) (by simp [results, Tryd.results25, go_sem, s2]) rfl ⟨by rw [HI.out], ?_⟩
          exact (((hQ2.below _).alloc (by omega) _).alloc (by simp; omega) _).alloc (by simp; omega) _
        · have hins : insV x = .agg #[.int .i64 (kindOf x), .int .i64 (bitsOf x 7 5), .int .i64 (bitsOf x 15 5), .int .i64 (0), .int .u32 (immOf x 3), .int .i64 (0)] := by unfold insV; rw [hz]; rfl
          have HI : Hid (insV x = .agg #[.int .i64 (kindOf x), .int .i64 (bitsOf x 7 5), .int .i64 (bitsOf x 15 5), .int .i64 (0), .int .u32 (immOf x 3), .int .i64 (0)]) := hins
          clear hins
          go_wp2_with fail
          refine (f7 _).mono ?_; rintro e w' ⟨rfl, hq'⟩
          obtain ⟨V2, hv2, rfl⟩ := q_alloc3 hq'
          have s2 : V2.heap.size = w.heap.size := hv2.size.trans s1
          have hQ2 := hQ1.trans hv2
          go_wp2_with fail
          refine (f9 _).mono ?_; rintro e w' ⟨rfl, hq'⟩
          obtain ⟨V3, hv3, rfl⟩ := q_alloc3 hq'
          have s3 : V3.heap.size = w.heap.size := hv3.size.trans s2
          have hQ3 := hQ2.trans hv3
          go_wp2
          refine bodyPost_ret (v := .agg #[.int .i64 (kindOf x), .int .i64 (bitsOf x 7 5), .int .i64 (bitsOf x 15 5), .int .i64 (0), .int .u32 (immOf x 3), .int .i64 (0)]) (by simp [results, Tryd.results25, go_sem, s3]) rfl ⟨by rw [HI.out], ?_⟩
          exact (((hQ3.below _).alloc (by omega) _).alloc (by simp; omega) _).alloc (by simp; omega) _
        · have hins : insV x = .agg #[.int .i64 (kindOf x), .int .i64 (0), .int .i64 (bitsOf x 15 5), .int .i64 (bitsOf x 20 5), .int .u32 (immOf x 4), .int .i64 (0)] := by unfold insV; rw [hz]; rfl
          have HI : Hid (insV x = .agg #[.int .i64 (kindOf x), .int .i64 (0), .int .i64 (bitsOf x 15 5), .int .i64 (bitsOf x 20 5), .int .u32 (immOf x 4), .int .i64 (0)]) := hins
          clear hins
          go_wp2_with fail
          refine (f9 _).mono ?_; rintro e w' ⟨rfl, hq'⟩
          obtain ⟨V2, hv2, rfl⟩ := q_alloc3 hq'
          have s2 : V2.heap.size = w.heap.size := hv2.size.trans s1
          have hQ2 := hQ1.trans hv2
          go_wp2_with fail
          refine (f8 _).mono ?_; rintro e w' ⟨rfl, hq'⟩
          obtain ⟨V3, hv3, rfl⟩ := q_alloc3 hq'
          have s3 : V3.heap.size = w.heap.size := hv3.size.trans s2
          have hQ3 := hQ2.trans hv3
          go_wp2
          refine bodyPost_ret (v := .agg #[.int .i64 (kindOf x), .int .i64 (0), .int .i64 (bitsOf x 15 5), .int .i64 (bitsOf x 20 5), .int .u32 (immOf x 4), .int .i64 (0)]) (by simp [results, Tryd.results25, go_sem, s3]) rfl ⟨by rw [HI.out], ?_⟩
          exact (((hQ3.below _).alloc (by omega) _).alloc (by simp; omega) _).alloc (by simp; omega) _
        · have hins : insV x = .agg #[.int .i64 (kindOf x), .int .i64 (0), .int .i64 (bitsOf x 15 5), .int .i64 (bitsOf x 20 5), .int .u32 (immOf x 5), .int .i64 (0)] := by unfold insV; rw [hz]; rfl
          have HI : Hid (insV x = .agg #[.int .i64 (kindOf x), .int .i64 (0), .int .i64 (bitsOf x 15 5), .int .i64 (bitsOf x 20 5), .int .u32 (immOf x 5), .int .i64 (0)]) := hins
          clear hins
          go_wp2_with fail
          refine (f9 _).mono ?_; rintro e w' ⟨rfl, hq'⟩
          obtain ⟨V2, hv2, rfl⟩ := q_alloc3 hq'
          have s2 : V2.heap.size = w.heap.size := hv2.size.trans s1
          have hQ2 := hQ1.trans hv2
          go_wp2_with fail
          refine (f8 _).mono ?_; rintro e w' ⟨rfl, hq'⟩
          obtain ⟨V3, hv3, rfl⟩ := q_alloc3 hq'
          have s3 : V3.heap.size = w.heap.size := hv3.size.trans s2
          have hQ3 := hQ2.trans hv3
          go_wp2
          refine bodyPost_ret (v := .agg #[.int .i64 (kindOf x), .int .i64 (0), .int .i64 (bitsOf x 15 5), .int .i64 (bitsOf x 20 5), .int .u32 (immOf x 5), .int .i64 (0)]) (by simp [results, Tryd.results25, go_sem, s3]) rfl ⟨by rw [HI.out], ?_⟩
          exact (((hQ3.below _).alloc (by omega) _).alloc (by simp; omega) _).alloc (by simp; omega) _
        · have hins : insV x = .agg #[.int .i64 (kindOf x), .int .i64 (bitsOf x 7 5), .int .i64 (bitsOf x 15 5), .int .i64 (bitsOf x 20 5), .int .u32 (immOf x 6), .int .i64 (0)] := by unfold insV; rw [hz]; rfl
          have HI : Hid (insV x = .agg #[.int .i64 (kindOf x), .int .i64 (bitsOf x 7 5), .int .i64 (bitsOf x 15 5), .int .i64 (bitsOf x 20 5), .int .u32 (immOf x 6), .int .i64 (0)]) := hins
          clear hins
          go_wp2_with fail
          refine (f7 _).mono ?_; rintro e w' ⟨rfl, hq'⟩
          obtain ⟨V2, hv2, rfl⟩ := q_alloc3 hq'
          have s2 : V2.heap.size = w.heap.size := hv2.size.trans s1
          have hQ2 := hQ1.trans hv2
          go_wp2_with fail
          refine (f9 _).mono ?_; rintro e w' ⟨rfl, hq'⟩
          obtain ⟨V3, hv3, rfl⟩ := q_alloc3 hq'
          have s3 : V3.heap.size = w.heap.size := hv3.size.trans s2
          have hQ3 := hQ2.trans hv3
          go_wp2_with fail
          refine (f8 _).mono ?_; rintro e w' ⟨rfl, hq'⟩
          obtain ⟨V4, hv4, rfl⟩ := q_alloc3 hq'
          have s4 : V4.heap.size = w.heap.size := hv4.size.trans s3
          have hQ4 := hQ3.trans hv4
          go_wp2
          refine bodyPost_ret (v := .agg #[.int .i64 (kindOf x), .int .i64 (bitsOf x 7 5), .int .i64 (bitsOf x 15 5), .int .i64 (bitsOf x 20 5), .int .u32 (immOf x 6), .int .i64 (0)]) (by simp [results, Tryd.results25, go_sem, s4]) rfl ⟨by rw [HI.out], ?_⟩
          exact (((hQ4.below _).alloc (by omega) _).alloc (by simp; omega) _).alloc (by simp; omega) _
        · have hins : insV x = .agg #[.int .i64 (kindOf x), .int .i64 (bitsOf x 7 5), .int .i64 (bitsOf x 15 5), .int .i64 (0), .int .u32 (immOf x 7), .int .i64 (0)] := by unfold insV; rw [hz]; rfl
          have HI : Hid (insV x = .agg #[.int .i64 (kindOf x), .int .i64 (bitsOf x 7 5), .int .i64 (bitsOf x 15 5), .int .i64 (0), .int .u32 (immOf x 7), .int .i64 (0)]) := hins
          clear hins
          go_wp2_with fail
          refine (f7 _).mono ?_; rintro e w' ⟨rfl, hq'⟩
          obtain ⟨V2, hv2, rfl⟩ := q_alloc3 hq'
          have s2 : V2.heap.size = w.heap.size := hv2.size.trans s1
          have hQ2 := hQ1.trans hv2
          go_wp2_with fail
          refine (f9 _).mono ?_; rintro e w' ⟨rfl, hq'⟩
          obtain ⟨V3, hv3, rfl⟩ := q_alloc3 hq'
          have s3 : V3.heap.size = w.heap.size := hv3.size.trans s2
          have hQ3 := hQ2.trans hv3
          go_wp2
          refine bodyPost_ret (v := .agg #[.int .i64 (kindOf x), .int .i64 (bitsOf x 7 5), .int .i64 (bitsOf x 15 5), .int .i64 (0), .int .u32 (immOf x 7), .int .i64 (0)]) (by simp [results, Tryd.results25, go_sem, s3]) rfl ⟨by rw [HI.out], ?_⟩
          exact (((hQ3.below _).alloc (by omega) _).alloc (by simp; omega) _).alloc (by simp; omega) _
        · have hins : insV x = .agg #[.int .i64 (kindOf x), .int .i64 (bitsOf x 7 5), .int .i64 (bitsOf x 15 5), .int .i64 (0), .int .u32 (immOf x 8), .int .i64 (bitsOf x 20 12)] := by unfold insV; rw [hz]; rfl
          have HI : Hid (insV x = .agg #[.int .i64 (kindOf x), .int .i64 (bitsOf x 7 5), .int .i64 (bitsOf x 15 5), .int .i64 (0), .int .u32 (immOf x 8), .int .i64 (bitsOf x 20 12)]) := hins
          clear hins
          go_wp2_with fail
          refine (f7 _).mono ?_; rintro e w' ⟨rfl, hq'⟩
          obtain ⟨V2, hv2, rfl⟩ := q_alloc3 hq'
          have s2 : V2.heap.size = w.heap.size := hv2.size.trans s1
          have hQ2 := hQ1.trans hv2
          go_wp2_with fail
          refine (f9 _).mono ?_; rintro e w' ⟨rfl, hq'⟩
          obtain ⟨V3, hv3, rfl⟩ := q_alloc3 hq'
          have s3 : V3.heap.size = w.heap.size := hv3.size.trans s2
          have hQ3 := hQ2.trans hv3
          go_wp2_with fail
          refine (fb _).mono ?_; rintro e w' ⟨rfl, hq'⟩
          obtain ⟨V4, hv4, rfl⟩ := q_alloc3 hq'
          have s4 : V4.heap.size = w.heap.size := hv4.size.trans s3
          have hQ4 := hQ3.trans hv4
          go_wp2
          refine bodyPost_ret (v := .agg #[.int .i64 (kindOf x), .int .i64 (bitsOf x 7 5), .int .i64 (bitsOf x 15 5), .int .i64 (0), .int .u32 (immOf x 8), .int .i64 (bitsOf x 20 12)]) (by simp [results, Tryd.results25, go_sem, s4]) rfl ⟨by rw [HI.out], ?_⟩
          exact (((hQ4.below _).alloc (by omega) _).alloc (by simp; omega) _).alloc (by simp; omega) _
        · have hins : insV x = .agg #[.int .i64 (kindOf x), .int .i64 (bitsOf x 7 5), .int .i64 (0), .int .i64 (0), .int .u32 (immOf x 9), .int .i64 (bitsOf x 20 12)] := by unfold insV; rw [hz]; rfl
          have HI : Hid (insV x = .agg #[.int .i64 (kindOf x), .int .i64 (bitsOf x 7 5), .int .i64 (0), .int .i64 (0), .int .u32 (immOf x 9), .int .i64 (bitsOf x 20 12)]) := hins
          clear hins
          go_wp2_with fail
          refine (f7 _).mono ?_; rintro e w' ⟨rfl, hq'⟩
          obtain ⟨V2, hv2, rfl⟩ := q_alloc3 hq'
          have s2 : V2.heap.size = w.heap.size := hv2.size.trans s1
          have hQ2 := hQ1.trans hv2
          go_wp2_with fail
          refine (fb _).mono ?_; rintro e w' ⟨rfl, hq'⟩
          obtain ⟨V3, hv3, rfl⟩ := q_alloc3 hq'
          have s3 : V3.heap.size = w.heap.size := hv3.size.trans s2
          have hQ3 := hQ2.trans hv3
          go_wp2
          refine bodyPost_ret (v := .agg #[.int .i64 (kindOf x), .int .i64 (bitsOf x 7 5), .int .i64 (0), .int .i64 (0), .int .u32 (immOf x 9), .int .i64 (bitsOf x 20 12)]) (by simp [results, Tryd.results25, go_sem, s3]) rfl ⟨by rw [HI.out], ?_⟩
          exact (((hQ3.below _).alloc (by omega) _).alloc (by simp; omega) _).alloc (by simp; omega) _
      · have hnn := HN.out k hlt hne
        generalize maskL.getD k 0 = m at *
        generalize matchL.getD k 0 = t at *
        go_wp2
        go_quiet (fail)
        go_wp2
        go_roundw
        case rel => exact ⟨k + 1, by omega, by omega, by go_num, hq.drewN _⟩
        case measure => simp [intOf]; omega
    · obtain rfl : k = 57 := by omega
      have hz : kindOf x = 0 := by have := HL.out; omega
      have hins : insV x = .agg #[.int .i64 0, .int .i64 0, .int .i64 0, .int .i64 0, .int .u32 0, .int .i64 0] := by unfold insV; rw [hz]; rfl
      obtain ⟨q, rfl⟩ := hq
      have hw := HW.out
      subst hw
      go_wp2
      refine bodyPost_ret (v := insV x) (by simp [results, Tryd.results25, go_sem, hins]) rfl ⟨by rw [hins], ?_⟩
      exact (((((((below_drewN (((Below.refl _ _).alloc (Nat.le_refl _) _).alloc (by simp) _) q).setCell (by simp) _).setCell (by simp) _).setCell (by simp) _).setCell (by simp) _).setCell (by simp) _).setCell (by simp) _)
end Go.Proofs.YtakomdopeadcjaaDoor
