/- Layer 11: All, the caller. -/
import Derived.RangeFuncNested
import Derived.Test.YtkbccccjjlkgbaaFifoAll
namespace Go.Proofs.Ytkbccccjjlkgbaa
open Go.RowKit Go.Shelf
set_option linter.unusedVariables false

attribute [local go_sem] Oper.semAt_some

set_option maxRecDepth 100000 in
set_option maxHeartbeats 2000000 in
theorem fall_any (B m : Nat) (f : Nat → Int) (w : World) (h : IsFifo w B m f) :
    Calls Try.prog 64 #[.pointer (some ⟨B, 0, none⟩)] w fun e w' => ∃ v, e = .returned v ∧ w'.ownsRow w.heap.size 5 1 v m (rowL m f) ∧ Below w.heap.size w w' := by
  have hm := h.le
  have hBl := h.lt
  have hc := h.count
  have HI := Lib.hid h
  clear h
  obtain ⟨i0, hi, hz0, hz1, hz2⟩ := info_parts Try.info5
  refine (callsIn_wide (n := 3)).1 ?_
  refine callsIn_of_wp_marks Try.func64 rfl trivial ?_ rfl
  simp only [Try.ntmps64, List.size_toArray, List.length_cons, List.length_nil, Nat.reduceAdd, Nat.reduceSub, Array.replicate_succ, Array.replicate_zero, List.push_toArray, List.append_toArray, List.nil_append, List.cons_append]
  gi_wp2_with (gi_at_make; refine wpListIn_make_own _ rfl _ _ 30 rfl w.heap.size 5 i0 _ 1 Try.underlying30 hi hz0 hz1 .i64 .i64 _ m rfl rfl rfl (by rw [hz2]; omega) (by unfold maxLen; omega) (Nat.le_refl _) ?_)
  intro w1 hown1 hgr1
  gi_wp2_with (refine ⟨trivial, ?_⟩; gi_at_call 78; refine (waiting_in Fence.wide (3 - 1) trivial rfl _ _).mono ?_; rintro e w' ⟨rfl, hw⟩; subst hw)
  have hs1 : w.heap.size ≤ w1.heap.size := hgr1.size
  have hB1 : Below w.heap.size w w1 := (Below.refl _ w).grown hgr1 (Nat.le_refl _) (fun j hj => by cases hj)
  have bO := Boxed.new w1 30 (.slice (some ⟨w.heap.size, 0, none⟩) 0 m)
  have bN := Boxed.new (w1.alloc (.cells #[.slice (some ⟨w.heap.size, 0, none⟩) 0 m] 30)) 103 (.pointer (some ⟨B, 0, none⟩))
  rw [World.size_alloc] at bN
  have bO2 := bO.alloc (.cells #[.pointer (some ⟨B, 0, none⟩)] 103)
  have hown2 := (hown1.alloc (.cells #[.slice (some ⟨w.heap.size, 0, none⟩) 0 m] 30)).alloc (.cells #[.pointer (some ⟨B, 0, none⟩)] 103)
  have hB0 : Below w.heap.size w ((w1.alloc (.cells #[.slice (some ⟨w.heap.size, 0, none⟩) 0 m] 30)).alloc (.cells #[.pointer (some ⟨B, 0, none⟩)] 103)) := (hB1.alloc hs1 _).alloc (by simp; omega) _
  have hF0 := HI.out.on hB0
  obtain ⟨M, hM⟩ : ∃ M, w1.heap.size = M := ⟨_, rfl⟩
  have hsz : ((w1.alloc (.cells #[.slice (some ⟨w.heap.size, 0, none⟩) 0 m] 30)).alloc (.cells #[.pointer (some ⟨B, 0, none⟩)] 103)).heap.size = M + 2 := by simp [hM]
  rw [hM] at bO2 bN ⊢
  have hMle : w.heap.size ≤ M := by omega
  obtain ⟨W0, hW0⟩ : ∃ W0, ((w1.alloc (.cells #[.slice (some ⟨w.heap.size, 0, none⟩) 0 m] 30)).alloc (.cells #[.pointer (some ⟨B, 0, none⟩)] 103)) = W0 := ⟨_, rfl⟩
  rw [hW0] at bO2 bN hB0 hF0 hsz hown2 ⊢
  clear hW0 hown1 hgr1 hB1 bO hs1 hM
  refine wpIn_rangeFunc_ownG rfl (by omega) (gf := 91) (lb := #[.pointer (some ⟨M + 1, 0, none⟩)]) rfl trivial (enters_of Try.func91 (by kernel_rfl) rfl)
    (waiting_stops (3 - 1) (by omega) (M + 1) w.heap.size B m f W0 (by omega) bN hBl hF0) kf_t (kf_b (by omega)) (Below.refl _ _) (fun _ => rfl)
    (fun (pre : List Int) W => (∃ v, Boxed W M 30 v ∧ W.ownsRow w.heap.size 5 1 v pre.length (pre.map (Value.int .u8)) ∧ True) ∧ Below w.heap.size w W ∧ Boxed W (M + 1) 103 (.pointer (some ⟨B, 0, none⟩)))
    (fun _ _ _ => False)
    (OwnFrom.and (Own.from (holdsRow_own w.heap.size M 30 5 1 (fun (pre : List Int) => pre.length) (fun (pre : List Int) => pre.map (Value.int .u8)) (fun _ _ => True)) _) (OwnFrom.and (ownFrom_below (Nat.le_refl _) (by omega)) (Own.from (boxed_own (M + 1) 103 (fun _ => .pointer (some ⟨B, 0, none⟩))) _)))
    (fun _ _ _ _ _ hs _ _ => hs)
    ⟨⟨_, bO2, hown2, trivial⟩, hB0, bN⟩
    (fun (x : Int) => { tmps := #[.pointer (some ⟨B, 0, none⟩), undef, .slice none 0 0, .pointer (some ⟨M, 0, none⟩), .int .u8 x, .pointer (some ⟨B, 0, none⟩), .bool false, .pointer (some ⟨B, 0, none⟩), .pointer (some ⟨B, 0, none⟩), .pointer (some ⟨B, 17, none⟩), .int .i64 (m : Int), .slice (some ⟨w.heap.size, 0, none⟩) 0 m, .pointer (some ⟨B, 0, none⟩), .func (.func 91) #[] #[.pointer (some ⟨M + 1, 0, none⟩)], .int .u8 x, undef, undef, undef, undef, undef], defers := [] }) ?assign ?body ?done ?stop
  case assign =>
    intro l x W K hK
    gi_wp2
    exact hK
  case body =>
    rintro l pre x W ⟨⟨v, hv, hrow, _⟩, hB, hN⟩ hlt
    have hc := hv.cell
    gi_wp2_with (gi_at_builtin; refine wpListIn_append_own _ rfl _ _ 30 rfl w.heap.size 5 i0 (.int .u8 0) 1 1 Try.underlying30 hi hz0 hz1 hz2 rfl (by decide) _ _ _ rfl (hrow.alloc _) ⟨W.heap.size, 0, none⟩ 1 1 [.int .u8 x] rfl rfl (cell_one_new _ _ _) (by simp [Value.oneCell']) (by unfold maxLen; omega) (by omega) (by have := hB.size; simp; omega) ?_; intro v' w2 hown' hgrow _; obtain ⟨g', cap', rfl⟩ := ownsRow_succ hown'; have hn2 : Boxed w2 (M + 1) 103 (.pointer (some ⟨B, 0, none⟩)) := (hN.alloc _).kept hgrow (hN.not_row (by decide) hrow); obtain ⟨hv1, hv2, hr2, hk2, hb2⟩ := hv.appended (by decide) hrow hB.size hMle hown' hgrow; have hc1 := hv1.cell; have hf1 := hv1.frozen)
    have hn3 := hn2.other (B' := M) (by omega) (.slice (some ⟨g', 0, none⟩) (pre.length + 1) cap')
    exact ⟨hk2.from _, ⟨hb2, fun _ => hn3⟩, ⟨⟨_, hv2, by simpa using hr2, trivial⟩, hB.trans hb2, hn3⟩⟩
  case done =>
    rintro D ys W hD rfl ⟨⟨v, hv, hrow, _⟩, hB, _⟩ hK
    have hc := hv.cell
    gi_wp2
    refine ⟨by simp, .inl ⟨_, _, rfl, run_takeDeferred hK, ?_⟩⟩
    have hrow2 := ownsRow_putObj hrow (.deferred none) hK rfl
    rw [upto_length, show (upto f m).map (Value.int .u8) = rowL m f from by simp [upto, rowL]] at hrow2
    exact ⟨_, results_tmp rfl _ _ _, v, rfl, hrow2, hB.trans (belowK_b (w := w) (Nat.le_refl _) W D _ _ (by omega) hK rfl rfl)⟩
  case stop =>
    rintro D c pre W _ _ h _
    exact h.elim
end Go.Proofs.Ytkbccccjjlkgbaa
