/- Layer 9: mask.Numbers; awake. -/
import Derived.Test.YtpcjbicnceipmaaDoorMaskFind
import Derived.OwnWalk
import Derived.Laws.OwnMore
namespace Go.Proofs.YtpcjbicnceipmaaDoor
open Go.RowKit
set_option linter.unusedVariables false

def numsTo : Nat → List Value
  | 0 => []
  | k + 1 => numsTo k ++ [.int .i64 (mnum k)]
theorem numsTo_length : ∀ k, (numsTo k).length = k
  | 0 => rfl
  | k + 1 => by simp [numsTo, numsTo_length k]
theorem numsTo_at : ∀ n k, k < n → (numsTo n)[k]? = some (.int .i64 (mnum k))
  | 0, k, h => absurd h (by omega)
  | n + 1, k, h => by
    have hl := numsTo_length n
    by_cases c : k < n
    · rw [numsTo, List.getElem?_append_left (by omega)]
      exact numsTo_at n k c
    · obtain rfl : k = n := by omega
      rw [numsTo, List.getElem?_append_right (by omega), hl, Nat.sub_self]; rfl

set_option maxHeartbeats 2000000 in
theorem numbers_any (w : World) (ht : RegTab w) :
    Calls Tryd.prog 17 #[] w fun e w' => ∃ v, e = .returned v ∧ w'.ownsRow w.heap.size 3 1 v 23 (numsTo 23) ∧ Below w.heap.size w w' := by
  have HT : Hid (RegTab w) := ht
  clear ht
  obtain ⟨i0, hi, hz0, hz1, hz2⟩ := info_parts (P := Tryd.prog) (e := 3) (z := .int .i64 0) (size := 1) (bytes := 8) (by kernel_rfl)
  go_enter Tryd.func17, Tryd.ntmps17
  go_wp2_with (at_make; refine wpList_make_own _ rfl _ _ 41 rfl w.heap.size 3 i0 _ 1 Tryd.underlying41 hi hz0 hz1 .i64 .i64 _ 23 rfl rfl rfl (by rw [hz2]; omega) (by unfold maxLen; omega) (Nat.le_refl _) ?_)
  intro w1 hown hg
  have hb : Below w.heap.size w w1 := (Below.refl _ _).grown hg (Nat.le_refl _) (fun _ h => by cases h)
  clear hg
  go_wp2
  go_loopw [1, 4] (fun v i wr => ∃ k : Nat, k ≤ 23 ∧ i = .int .i64 k ∧ wr.ownsRow w.heap.size 3 1 v k (numsTo k) ∧ Below w.heap.size w wr) (fun _ i _ => 23 - (intOf i).toNat)
  case atStart => exact ⟨0, Nat.zero_le _, rfl, hown, hb⟩
  case round =>
    clear hown hb
    obtain ⟨k, hk, rfl, hown, hb⟩ := hrel
    by_cases hlt : k < 23
    · obtain ⟨c0, -, -, -⟩ := HT.out.on hb k hlt
      have HN : Hid (numsTo k ++ [.int .i64 (mnum k)] = numsTo (k + 1)) := rfl
      generalize mnum k = m at *
      go_wp2_with (at_builtin; refine wpList_append_own _ rfl _ _ 41 rfl w.heap.size 3 i0 _ 1 8 Tryd.underlying41 hi hz0 hz1 hz2 rfl (by decide) _ _ _ rfl (hown.alloc _) ⟨wr.heap.size, 0, none⟩ 1 1 [.int .i64 m] rfl rfl ?c1 ?c2 ?c3 ?c4 ?c5 ?_)
      case c1 =>
        intro j u hj
        match j, hj with
        | 0, hj => simp at hj; subst hj; simp [Addr.add]
      case c2 => intro u hu; simp at hu; subst hu; rfl
      case c3 => unfold maxLen; omega
      case c4 => omega
      case c5 => have := hb.size; simp; omega
      intro v' w3 hown' hgrow _
      have hb' : Below w.heap.size w w3 := (hb.alloc hb.size _).grown hgrow (by have := hb.size; simp; omega) (fun j hj => (hown.lt j hj).1)
      have ho : w3.ownsRow w.heap.size 3 1 v' (k + 1) (numsTo (k + 1)) := by
        rw [← HN.out]; exact hown'
      clear hown' hgrow hown
      go_wp2
      go_roundw
      case rel => exact ⟨k + 1, by omega, by go_num, ho, hb'⟩
      case measure => simp [intOf]; omega
    · obtain rfl : k = 23 := by omega
      go_wp2
      go_ret
      exact ⟨_, rfl, hown, hb⟩

theorem mlegal0 : mlegal 0 4294967295 = 6280 := by decide +kernel

set_option maxHeartbeats 1000000 in
theorem awake9_any (w : World) (ht : RegTab w) :
    Calls Tryd.prog 9 #[] w fun e w' => e = .returned (.bool true) ∧ Below w.heap.size w w' := by
  have HL : Hid (Calls Tryd.prog 15 #[.int .i64 768, .int .u32 4294967295] w fun e w' => e = .returned (.tuple #[.int .u32 6280, .int .i64 0]) ∧ Below w.heap.size w w') := by
    have := legal_yes 0 4294967295 w (by omega) (by omega) (by omega) ht
    rw [mlegal0] at this
    exact this
  have HT : Hid (RegTab w) := ht
  have HM : Hid (∀ W, RegTab W → Calls Tryd.prog 10 #[.string ⟨#[109, 101, 112, 99]⟩] W fun e w' => e = .returned (.tuple #[.int .i64 833, .int .i64 0]) ∧ Below W.heap.size W w') := fun W ht => number_yes 5 W (by omega) ht
  clear ht
  go_enter Tryd.func9, Tryd.ntmps9
  go_wp2_with fail
  refine Calls.mono (Hid.out HL) ?_
  rintro e w1 ⟨rfl, hb⟩
  have HB := Lib.hid hb
  clear hb
  go_wp2_with fail
  refine Calls.mono (HM.out _ (HT.out.on HB.out)) ?_
  rintro e w2 ⟨rfl, hb2⟩
  have HB2 := Lib.hid hb2
  clear hb2
  go_wp2
  go_ret
  exact ⟨rfl, HB.out.trans (HB2.out.mono HB.out.size)⟩
end Go.Proofs.YtpcjbicnceipmaaDoor
