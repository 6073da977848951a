/- Layer 12: what console's methods do: what only looks, and what comes and goes. -/
import Derived.Test.YtkbccccjjlkgbaaConMem
import Derived.Test.YtkbccccjjlkgbaaFifoAll2
namespace Go.Proofs.Ytkbccccjjlkgbaa
open Go.RowKit
set_option linter.unusedVariables false

set_option maxHeartbeats 400000 in
theorem cnext_nil (w : World) :
    Calls Try.prog 59 #[.pointer none] w fun e w' => e = .returned (.tuple #[.int .u64 0, .bool false]) ∧ Q w w' := by
  go_enter Try.func59, Try.ntmps59
  go_wp2_with fail
  go_quiet (fail)
  go_wp2
  go_ret2
  exact ⟨rfl, _, rfl⟩

set_option maxHeartbeats 800000 in
theorem cnext_any {R K : Nat} {S : Nat → Prop} {T Y : Nat → Int} {s : CS} (w : World) (h : IsCon w R S K T Y s) :
    Calls Try.prog 59 #[.pointer (some ⟨R, 0, none⟩)] w fun e w' => e = .returned (.tuple #[.int .u64 (if s.c < K then T s.c else 0), .bool (decide (s.c < K))]) ∧ Q w w' := by
  obtain ⟨F, A, cap, v, hR, hF, hO, hA, hK, hne, hin, hS⟩ := h
  obtain ⟨⟨q0, q1, q2, q3, q4⟩, -⟩ := five_cells hR
  obtain ⟨k1, k2⟩ := hK
  by_cases hlt : s.c < K
  · have ha := (hA s.c hlt).1
    rw [Nat.zero_add] at ha
    have hne : ((s.c : Int) == (K : Int)) = false := by simp; omega
    rw [if_pos hlt, decide_eq_true hlt]
    clear hR hF hO hA hin hS
    generalize T s.c = x at ha ⊢
    have k3 : (s.c : Int) < K := by omega
    go_enter Try.func59, Try.ntmps59
    go_wp2_with fail
    go_quiet (fail)
    go_wp2_with fail
    go_quiet (fail)
    go_wp2
    go_ret2
    exact ⟨rfl, ((Q.refl w).drewN _).drewN _⟩
  · have he : s.c = K := by omega
    have hne : ((s.c : Int) == (K : Int)) = true := by simp; omega
    rw [if_neg hlt, decide_eq_false hlt]
    clear hR hF hO hA hin hS
    go_enter Try.func59, Try.ntmps59
    go_wp2_with fail
    go_quiet (fail)
    go_wp2
    go_ret2
    exact ⟨rfl, _, rfl⟩

set_option maxHeartbeats 400000 in
theorem cready_nil (w : World) :
    Calls Try.prog 51 #[.pointer none] w fun e w' => e = .returned (.bool false) ∧ w' = w := by
  go_enter Try.func51, Try.ntmps51
  go_wp2
  go_ret
  exact ⟨rfl, rfl⟩

set_option maxHeartbeats 400000 in
theorem cready_any {R K : Nat} {S : Nat → Prop} {T Y : Nat → Int} {s : CS} (w : World) (h : IsCon w R S K T Y s) :
    Calls Try.prog 51 #[.pointer (some ⟨R, 0, none⟩)] w fun e w' => e = .returned (.bool (decide (0 < s.n))) ∧ w' = w := by
  obtain ⟨F, A, cap, v, hR, hF, hO, hA, hK, hne, hin, hS⟩ := h
  obtain ⟨⟨q0, q1, q2, q3, q4⟩, -⟩ := five_cells hR
  have HF := Lib.hid hF
  clear hR hF hO hA hin hS hK hne
  go_enter Try.func51, Try.ntmps51
  go_wp2_with fail
  refine (flen_any F _ _ _ HF.out).mono ?_
  rintro e w' ⟨rfl, hw⟩
  have hw := hw.symm
  subst hw
  go_wp2
  go_ret
  exact ⟨ret_bool (by simp), rfl⟩

set_option maxHeartbeats 400000 in
theorem cwaits_nil (w : World) :
    Calls Try.prog 39 #[.pointer none] w fun e w' => e = .returned (.slice none 0 0) ∧ w' = w := by
  go_enter Try.func39, Try.ntmps39
  go_wp2
  go_ret
  exact ⟨rfl, rfl⟩

set_option maxHeartbeats 400000 in
theorem cwaits_any {R K : Nat} {S : Nat → Prop} {T Y : Nat → Int} {s : CS} (w : World) (h : IsCon w R S K T Y s) :
    Calls Try.prog 39 #[.pointer (some ⟨R, 0, none⟩)] w fun e w' => ∃ v, e = .returned v ∧ IsRowV w' v s.n s.f ∧ Below w.heap.size w w' := by
  obtain ⟨F, A, cap, v, hR, hF, hO, hA, hK, hne, hin, hS⟩ := h
  obtain ⟨⟨q0, q1, q2, q3, q4⟩, -⟩ := five_cells hR
  have HF := Lib.hid hF
  clear hR hF hO hA hin hS hK hne
  go_enter Try.func39, Try.ntmps39
  go_wp2_with fail
  refine (fall_any F _ _ _ HF.out).mono ?_
  rintro e w' ⟨v, rfl, hown, hb⟩
  have HY := Lib.hid (isRowV_of_own hown)
  have HB := Lib.hid hb
  clear hown hb
  go_wp2
  go_ret
  exact ⟨_, rfl, HY.out, HB.out⟩

set_option maxHeartbeats 400000 in
theorem cout_nil (w : World) :
    Calls Try.prog 30 #[.pointer none] w fun e w' => e = .returned (.slice none 0 0) ∧ w' = w := by
  go_enter Try.func30, Try.ntmps30
  go_wp2
  go_ret
  exact ⟨rfl, rfl⟩

/-- What is owned, as what append takes. -/
theorem own_src {w W : World} {base : Nat} {e : TypeId} {v : Value} {n : Nat} {xs : List Value} (h : w.ownsRow base e 1 v n xs) (hb : Below w.heap.size w W) : (v = .slice none 0 0 ∧ n = 0) ∨ ∃ ad c, v = .slice (some ad) n c ∧ ∀ j u, xs[j]? = some u → W.cell? (ad.add j) = some u := by
  rcases h.2 with h0 | ⟨g, cap, cur, rfl, hbs, hg, rest⟩
  · exact .inl h0
  · refine .inr ⟨_, _, rfl, fun j u hj => ?_⟩
    have hc := h.cells (g := g) rfl j u hj
    rw [Addr.add_lit] at hc ⊢
    rw [hb.cell (World.block_lt_of_cell? w _ hc)]; exact hc

set_option maxHeartbeats 800000 in
theorem cout_any {R K : Nat} {S : Nat → Prop} {T Y : Nat → Int} {s : CS} (w : World) (hm : s.m ≤ 100000) (h : IsCon w R S K T Y s) :
    Calls Try.prog 30 #[.pointer (some ⟨R, 0, none⟩)] w fun e w' => ∃ v, e = .returned v ∧ IsRowV w' v s.m s.g ∧ Below w.heap.size w w' := by
  obtain ⟨F, A, cap, v, hR, hF, hO, hA, hK, hne, hin, hS⟩ := h
  obtain ⟨⟨q0, q1, q2, q3, q4⟩, -⟩ := five_cells hR
  have lR : R < w.heap.size := (Array.getElem?_eq_some_iff.1 hR).1
  obtain ⟨i0, hi, hz0, hz1, hz2⟩ := info_parts Try.info5
  have HB0 : Hid (Below w.heap.size w (w.alloc (.cells #[] 5))) := (Below.refl w.heap.size w).alloc (Nat.le_refl _) _
  have HO0 : Hid ((w.alloc (.cells #[] 5)).ownsRow w.heap.size 5 1 (.slice (some ⟨w.heap.size, 0, none⟩) 0 0) 0 []) := World.ownsRow_made w #[] 0 (Nat.le_refl _) (by decide) rfl
  have HS := Lib.hid (own_src hO HB0.out)
  have hq4 : (w.alloc (.cells #[] 5)).cell? ⟨R, 4, none⟩ = some v := by rw [HB0.out.cell lR]; exact q4
  obtain ⟨sa, sn, sc, hv⟩ : ∃ a n c, v = .slice a n c := by
    rcases hO.2 with ⟨h, _⟩ | ⟨g, cap, cur, h, _⟩
    · exact ⟨_, _, _, h⟩
    · exact ⟨_, _, _, h⟩
  clear hR hF hO hA hin hS hK hne q0 q1 q2 q3 q4
  subst hv
  go_enter Try.func30, Try.ntmps30
  go_wp2_with (first
    | (at_builtin; refine wpList_append_src rfl (.tmp 5) (.tmp 9) 30 rfl w.heap.size 5 i0 (.int .u8 0) 1 1 Try.underlying30 hi hz0 hz1 hz2 rfl (by decide) _ 0 [] rfl HO0.out _ s.m (rowL s.m s.g) rfl HS.out (by rw [rowL_length]; omega) (rowL_one _ _) (by unfold maxLen; omega) (by omega) HB0.out.size ?_))
  intro v1 w1 hown1 hgr1 _
  have HY : Hid (IsRowV w1 v1 s.m s.g) := isRowV_of_own hown1
  have HB1 : Hid (Below w.heap.size w w1) := HB0.out.grown hgr1 HB0.out.size (fun j hj => (HO0.out.lt j hj).1)
  clear hown1 hgr1
  go_wp2
  go_ret
  exact ⟨_, rfl, HY.out, HB1.out⟩

set_option maxHeartbeats 1600000 in
theorem ccome_any {R K : Nat} {S : Nat → Prop} {T Y : Nat → Int} {s : CS} (w : World) (h : IsCon w R S K T Y s) (hlt : s.c < K) :
    Calls Try.prog 60 #[.pointer (some ⟨R, 0, none⟩)] w fun e w' => e = .returned (.tuple #[]) ∧ IsCon w' R S K T Y (s.come Y) ∧ Fr S w w' := by
  obtain ⟨F, A, cap, v, hR, hF, hO, hA, hK, hne, hin, hS⟩ := h
  obtain ⟨⟨q0, q1, q2, q3, q4⟩, -⟩ := five_cells hR
  obtain ⟨k1, k2⟩ := hK
  have ha := (hA s.c hlt).2
  rw [Nat.zero_add] at ha
  have k3 : (s.c : Int) < K := by omega
  have hn := hF.le
  by_cases hn16 : s.n < 16
  · have HP : Hid (Calls Try.prog 77 #[.pointer (some ⟨F, 0, none⟩), .int .u8 (Y s.c)] w.drew fun e w' => e = .returned (.bool true) ∧ Hid (IsFifo w' F (s.n + 1) (snoc s.n s.f (Y s.c)) ∧ Bar F w w')) := by
      have hq : Below w.heap.size w w.drew := (Below.refl _ _).drew
      refine (fpush_yes F s.n s.f (Y s.c) w.drew (hF.on hq) hn16).mono ?_
      rintro e w' ⟨rfl, h1, h2⟩
      exact ⟨rfl, h1, (Bar.of F hq).trans h2⟩
    have HE : Hid (∀ W : World, IsFifo W F (s.n + 1) (snoc s.n s.f (Y s.c)) → Bar F w W → W.heap[R]? = some (.cells #[.slice (some ⟨A, 0, none⟩) K cap, .int .i64 (s.c : Int), .pointer (some ⟨F, 0, none⟩), .bool s.ov, v] 106 (0, 0)) ∧ (IsCon (W.setCell ⟨R, 1, none⟩ (.int .i64 ((s.c : Int) + 1))) R S K T Y (s.come Y) ∧ Fr S w (W.setCell ⟨R, 1, none⟩ (.int .i64 ((s.c : Int) + 1))))) := fun W hf hb => by
      have lR := (Array.getElem?_eq_some_iff.1 hR).1
      have hR' : W.heap[R]? = some (.cells #[.slice (some ⟨A, 0, none⟩) K cap, .int .i64 (s.c : Int), .pointer (some ⟨F, 0, none⟩), .bool s.ov, v] 106 (0, 0)) := by rw [hb.2.2.2.2 R lR (Ne.symm hne.1)]; exact hR
      have hfr := fr_set (R := R) (o := 1) (u := .int .i64 ((s.c : Int) + 1)) (fr_bar (Fr.refl (fun k => k = R ∨ k = F) w) hb)
      have hc : s.come Y = ⟨s.c + 1, s.n + 1, snoc s.n s.f (Y s.c), s.ov, s.m, s.g⟩ := by unfold CS.come; rw [if_pos hn16]
      rw [hc]
      refine ⟨hR', IsCon.upd (s := s) hO hA k2 hne hin hS hfr (heap_setCell_at hR') (hf.bar (Bar.setCell R 1 W _) hne.1) hlt rfl rfl, fr_in hfr hin.1 hin.2.1⟩
    clear hR hF hO hA hin hS hne
    generalize Y s.c = y at ha HP HE
    go_enter Try.func60, Try.ntmps60
    go_wp2_with fail
    go_region_with (go_at_call 77; refine HP.out.mono ?_; rintro e w3 ⟨rfl, HX⟩)
    all_goals
      obtain ⟨hr3, hfin⟩ := HE.out _ HX.out.1 HX.out.2
      obtain ⟨⟨-, p1, -, -, -⟩, -, z1, -, -, -⟩ := five_cells hr3
      have HF := Lib.hid hfin
      clear hr3 hfin
      go_wp2
      go_end0
      exact ⟨rfl, HF.out⟩
  · have hn16' : s.n = 16 := by omega
    have HP : Hid (Calls Try.prog 77 #[.pointer (some ⟨F, 0, none⟩), .int .u8 (Y s.c)] w.drew fun e w' => e = .returned (.bool false) ∧ w' = w.drew) := by
      have hq : Below w.heap.size w w.drew := (Below.refl _ _).drew
      have hF' := hF.on hq
      rw [hn16'] at hF'
      exact fpush_full F s.f (Y s.c) w.drew hF'
    have HE : Hid (IsCon ((w.drew.setCell ⟨R, 3, none⟩ (.bool true)).setCell ⟨R, 1, none⟩ (.int .i64 ((s.c : Int) + 1))) R S K T Y (s.come Y) ∧ Fr S w ((w.drew.setCell ⟨R, 3, none⟩ (.bool true)).setCell ⟨R, 1, none⟩ (.int .i64 ((s.c : Int) + 1)))) := by
      have hd : Fr (fun k => k = R ∨ k = F) w w.drew := Fr.of _ ((Below.refl _ _).drew)
      have hfr := fr_set (R := R) (o := 1) (u := .int .i64 ((s.c : Int) + 1)) (fr_set (R := R) (o := 3) (u := .bool true) hd)
      have hc : s.come Y = ⟨s.c + 1, s.n, s.f, true, s.m, s.g⟩ := by unfold CS.come; rw [if_neg hn16]
      rw [hc]
      refine ⟨IsCon.upd (s := s) hO hA k2 hne hin hS hfr (heap_setCell_at (heap_setCell_at (w := w.drew) hR)) (((hF.on (Below.drew (Below.refl _ _))).bar (Bar.setCell R 3 _ _) hne.1).bar (Bar.setCell R 1 _ _) hne.1) hlt rfl rfl, fr_in hfr hin.1 hin.2.1⟩
    obtain ⟨-, -, z1, -, z3, -⟩ := five_cells hR
    clear hR hF hO hA hin hS hne
    generalize Y s.c = y at ha HP HE
    go_enter Try.func60, Try.ntmps60
    go_wp2_with fail
    go_region_with (go_at_call 77; refine HP.out.mono ?_; rintro e w3 ⟨rfl, hw⟩; subst hw)
    all_goals
      go_wp2
      go_end0
      exact ⟨rfl, HE.out⟩
end Go.Proofs.Ytkbccccjjlkgbaa
