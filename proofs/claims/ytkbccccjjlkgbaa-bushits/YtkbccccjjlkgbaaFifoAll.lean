/- Layer 11: All, by a range over a function. -/
import Derived.RangeFuncBox
import Derived.RangeFuncLeaves
import Derived.Shelf.Abstract
import Derived.Shelf.RegionOpen
import Derived.WalkKit
import Derived.OwnWalkIn
import Derived.TacticsInMore
import Derived.LoopNIn
import Derived.LoopIn
import Derived.Maps.AppendAt
import Derived.Test.YtkbccccjjlkgbaaFifoGo
namespace Go.Proofs.Ytkbccccjjlkgbaa
open Go.RowKit Go.Shelf
set_option linter.unusedVariables false

attribute [local go_sem] Oper.semAt_some

/-- What has come when k rounds are over. -/
def upto (f : Nat → Int) (k : Nat) : List Int := (List.range k).map f
theorem upto_succ (f : Nat → Int) (k : Nat) : upto f (k + 1) = upto f k ++ [f k] := by simp [upto, List.range_succ]
theorem upto_length (f : Nat → Int) (k : Nat) : (upto f k).length = k := by simp [upto]

set_option maxHeartbeats 400000 in
theorem place_in (F : Fence) (n : Nat) (hF : F.fn 90) (hro : F.round = none) (B s i : Nat) (w : World) (hs : s < 16) (hi : i ≤ 16) (hc : w.cell? ⟨B, 16, none⟩ = some (.int .i64 (s : Int))) :
    CallsIn F n Try.prog 90 #[.pointer (some ⟨B, 0, none⟩), .int .i64 (i : Int)] w fun e w' => e = .returned (.int .i64 (((s + i) % 16 : Nat) : Int)) ∧ w' = w := by
  refine callsIn_of_wp Try.func90 rfl hF ?_ hro
  simp only [Try.ntmps90, List.size_toArray, List.length_cons, List.length_nil, Nat.reduceAdd, Nat.reduceSub, Array.replicate_succ, Array.replicate_zero, List.push_toArray, List.append_toArray, List.nil_append, List.cons_append]
  gi_wp2
  go_ret
  refine ⟨ret_int ?_, rfl⟩
  go_num

set_option maxHeartbeats 400000 in
theorem waiting_in (F : Fence) (n : Nat) (hF : F.fn 78) (hro : F.round = none) (p0 : Option Addr) (w : World) :
    CallsIn F n Try.prog 78 #[.pointer p0] w fun e w' => e = .returned (.func (.func 91) #[] #[.pointer (some ⟨w.heap.size, 0, none⟩)]) ∧ w' = w.alloc (.cells #[.pointer p0] 103) := by
  refine callsIn_of_wp Try.func78 rfl hF ?_ hro
  simp only [Try.ntmps78, List.size_toArray, List.length_cons, List.length_nil, Nat.reduceAdd, Nat.reduceSub, Array.replicate_succ, Array.replicate_zero, List.push_toArray, List.append_toArray, List.nil_append, List.cons_append]
  gi_wp2
  go_ret
  exact ⟨rfl, rfl⟩

/-- What a round keeps: the blocks below n₀, and the box of the iterator's own. -/
def Kf (n₀ Bn B : Nat) (W W' : World) : Prop := Below n₀ W W' ∧ (Boxed W Bn 103 (.pointer (some ⟨B, 0, none⟩)) → Boxed W' Bn 103 (.pointer (some ⟨B, 0, none⟩)))

theorem kf_t {n₀ Bn B : Nat} {X Y Z : World} (h : Kf n₀ Bn B X Y) (k : Kf n₀ Bn B Y Z) : Kf n₀ Bn B X Z := ⟨h.1.trans k.1, fun e => k.2 (h.2 e)⟩
theorem kf_b {n₀ Bn B : Nat} {w : World} (hn : n₀ ≤ w.heap.size) (W : World) (l : Nat) (o o' : Obj) (hl : w.heap.size ≤ l) (h : W.heap[l]? = some o) (hc : o.isCells = false) (hw : o.isWalk = false) : Kf n₀ Bn B W (W.putObj l o') :=
  ⟨belowK_b hn W l o o' hl h hc hw, fun e => e.kept (grownBy_putObj' W l o') (fun q => by
    obtain rfl : Bn = l := Option.some.inj q
    rw [show W.heap[Bn]? = _ from e] at h
    cases h; cases hc)⟩

set_option maxRecDepth 100000 in
set_option maxHeartbeats 2000000 in
theorem waiting1_in (n : Nat) (hn : 2 ≤ n) (l Bn n₀ B m : Nat) (f : Nat → Int) (J Jx : List Int → World → Prop)
    (hY : ∀ pre x W, J pre W → pre.length < m → YieldAt Fence.wide (n - 1) Try.prog l #[.int .u8 x] W fun e W' =>
      (e = .returned (.bool true) ∧ J (pre ++ [x]) W' ∧ Kf n₀ Bn B W W') ∨ (e = .returned (.bool false) ∧ Jx (pre ++ [x]) W'))
    (W : World) (hJ : AbidesFrom W.heap.size J) (hBn : Boxed W Bn 103 (.pointer (some ⟨B, 0, none⟩))) (hn2 : B < n₀) (h : IsFifo W B m f) (h0 : J [] W) :
    CallsIn Fence.wide n Try.prog 91 #[.func (.yield l) #[] #[], .pointer (some ⟨Bn, 0, none⟩)] W fun e W' => (∃ v, e = .returned v) ∧
      ((∃ ys, ys = upto f m ∧ J ys W') ∨ (∃ pre, (∃ k, k ≤ m ∧ pre = upto f k) ∧ Jx pre W')) := by
  have hm := h.le
  have hc := h.count
  obtain ⟨s, hs, h16, hcell, _⟩ := h.first
  have hc0 := hBn.cell
  clear h
  refine callsIn_of_wp Try.func91 rfl trivial ?_ rfl
  simp only [Try.ntmps91, List.size_toArray, List.length_cons, List.length_nil, Nat.reduceAdd, Nat.reduceSub, Array.replicate_succ, Array.replicate_zero, List.push_toArray, List.append_toArray, List.nil_append, List.cons_append]
  gi_wp2
  gi_loopw [8] (fun i wr => ∃ k : Nat, k ≤ m ∧ i = .int .i64 k ∧ J (upto f k) wr ∧ Kf n₀ Bn B W wr)
    (fun i _ => m - (intOf i).toNat)
  case atStart => exact ⟨0, Nat.zero_le _, rfl, h0, Below.refl _ _, fun e => e⟩
  case round =>
    obtain ⟨k, hk, rfl, hJs, hnx⟩ := hrel
    by_cases hlt : k < m
    · have hc1 : wr.cell? ⟨Bn, 0, none⟩ = some (.pointer (some ⟨B, 0, none⟩)) := (hnx.2 hBn).cell
      have hc2 : wr.cell? ⟨B, 16, none⟩ = some (.int .i64 (s : Int)) := (hnx.1.cell (p := ⟨B, 16, none⟩) hn2).trans h16
      obtain ⟨p, hp⟩ : ∃ p, (s + k) % 16 = p := ⟨_, rfl⟩
      have hc3 : wr.cell? ⟨B, p, none⟩ = some (.int .u8 (f k)) := by rw [← hp]; exact (hnx.1.cell (p := ⟨B, (s + k) % 16, none⟩) hn2).trans (hcell k hlt)
      have hp1 : (p : Int) < 16 := by omega
      have HP : Hid (∀ V : World, V.cell? ⟨B, 16, none⟩ = some (.int .i64 (s : Int)) → CallsIn Fence.wide (n - 1) Try.prog 90 #[.pointer (some ⟨B, 0, none⟩), .int .i64 (k : Int)] V fun e w' => e = .returned (.int .i64 (p : Int)) ∧ w' = V) := fun V hV => by
        have := place_in Fence.wide (n - 1) trivial rfl B s k V hs (by omega) hV
        rwa [hp] at this
      clear hp
      have hJd : J (upto f k) wr.drew := hJ _ _ _ none hJs ⟨rfl, rfl, rfl, Nat.le_refl _, fun _ _ _ => rfl⟩ (fun r e => by cases e)
      obtain ⟨fn, tmps, assign, body, hy, hR⟩ := hY _ (f k) wr.drew hJd (by rw [upto_length]; exact hlt)
      have hR1 := hR.mono (R' := fun e W' => ∃ bb, e = .returned (.bool bb) ∧ ((bb = true ∧ J (upto f (k + 1)) W' ∧ Kf n₀ Bn B W W') ∨ (bb = false ∧ Jx (upto f (k + 1)) W'))) (by
        rintro e W' (⟨he, h1, h2⟩ | ⟨he, h1⟩)
        · exact ⟨true, he, .inl ⟨rfl, by rw [upto_succ]; exact h1, hnx.1.drew.trans h2.1, fun e => h2.2 (hnx.2 e)⟩⟩
        · exact ⟨false, he, .inr ⟨rfl, by rw [upto_succ]; exact h1⟩⟩)
      have HR := Lib.hid hR1
      have hd0 : 1 ≤ n := by omega
      have hd1 : 1 ≤ n - 1 := by omega
      have hmx : Try.prog.follows .mixedOrders = true := by kernel_rfl
      clear hR hR1
      gi_wp2
      gi_region_with_o (first
        | (refine ⟨trivial, ?_⟩; gi_at_call 90; refine (HP.out _ (by simpa using hc2)).mono ?_; rintro e w' ⟨rfl, hw⟩; have hw := hw.symm; subst hw)
        | (refine HR.out.mono ?_; rintro e W3 ⟨bb, rfl, hR3⟩))
      all_goals
        clear HR HP hy hc1 hc2 hc3 hY
        rcases hR3 with ⟨rfl, hJ3, hk3⟩ | ⟨rfl, hJx3⟩
        · gi_wp2
          go_roundw
          case rel => exact ⟨k + 1, by omega, by go_num, hJ3, hk3⟩
          case measure => simp [intOf]; omega
        · gi_wp2
          refine bodyPost_ret (results_none rfl _ _ _) rfl ?_
          exact ⟨⟨_, rfl⟩, .inr ⟨_, ⟨k + 1, by omega, rfl⟩, hJx3⟩⟩
    · obtain rfl : k = m := by omega
      gi_wp2
      go_end0
      exact ⟨⟨_, rfl⟩, .inl ⟨_, rfl, hJs⟩⟩

theorem waiting_stops (n : Nat) (hn : 2 ≤ n) (Bn n₀ B m : Nat) (f : Nat → Int) (w : World) (hn₀ : n₀ ≤ w.heap.size) (hBn : Boxed w Bn 103 (.pointer (some ⟨B, 0, none⟩))) (hn2 : B < n₀) (h : IsFifo w B m f) :
    SeqStopsK Fence.wide n Try.prog 91 #[.pointer (some ⟨Bn, 0, none⟩)] (fun x : Int => #[Value.int .u8 x]) (Kf n₀ Bn B) (fun ys => ys = upto f m) (fun pre => ∃ k, k ≤ m ∧ pre = upto f k) m w := fun l J Jx W hW hJ _ hY h0 =>
  waiting1_in n hn l Bn n₀ B m f J Jx hY W hJ ((hW.block Bn hBn.lt).trans hBn) hn2 (h.on hW) h0
end Go.Proofs.Ytkbccccjjlkgbaa
