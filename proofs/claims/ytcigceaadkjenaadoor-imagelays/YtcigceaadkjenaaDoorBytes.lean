/- What layer 1's functions on bytes do: isSize, Width, Bytes, Number, SameBytes, and the document's own. -/
import Derived.Test.YtcigceaadkjenaaDoorHex
namespace Go.Proofs.YtcigceaadkjenaaDoor
open Go.RowKit
set_option linter.unusedVariables false

def sizeB (n : Int) : Bool := decide (n = 1 ∨ n = 2 ∨ n = 4)
theorem sizeB_t {n : Int} (h : n = 1 ∨ n = 2 ∨ n = 4) : sizeB n = true := by simpa [sizeB] using h
theorem sizeB_f {n : Int} (h : ¬ (n = 1 ∨ n = 2 ∨ n = 4)) : sizeB n = false := by simpa [sizeB] using h
theorem sizeB_yes {n : Int} (h : sizeB n = true) : n = 1 ∨ n = 2 ∨ n = 4 := by simpa [sizeB] using h
theorem sizeB_no {n : Int} (h : sizeB n = false) : ¬ (n = 1 ∨ n = 2 ∨ n = 4) := by simpa [sizeB] using h

set_option maxHeartbeats 400000 in
theorem isSize_any (n : Int) (w : World) :
    Calls Tryd.prog 58 #[.int .i64 n] w fun e w' => e = .returned (.bool (sizeB n)) ∧ w' = w := by
  by_cases h1 : n = 1
  · subst h1
    go_enter Tryd.func58, Tryd.ntmps58
    go_wp2
    go_ret
    exact ⟨rfl, rfl⟩
  · by_cases h2 : n = 2
    · subst h2
      go_enter Tryd.func58, Tryd.ntmps58
      go_wp2
      go_ret
      exact ⟨rfl, rfl⟩
    · by_cases h3 : n = 4
      · subst h3
        go_enter Tryd.func58, Tryd.ntmps58
        go_wp2
        go_ret
        exact ⟨rfl, rfl⟩
      · go_enter Tryd.func58, Tryd.ntmps58
        go_wp2
        go_ret
        exact ⟨ret_bool (by rw [sizeB_f (by omega)]; simp [h1, h2, h3]), rfl⟩

/-- Byte i of x, the lowest first; the first k of them. -/
def byteAt (x : Int) (i : Nat) : Int := x / pw (8 * i) % 256
def bytesTo (x : Int) (k : Nat) : List Int := (List.range k).map (byteAt x)
theorem bytesTo_succ (x : Int) (k : Nat) : bytesTo x (k + 1) = bytesTo x k ++ [byteAt x k] := by
  unfold bytesTo; rw [List.range_succ, List.map_append]; rfl
theorem bytesTo_len (x : Int) (k : Nat) : (bytesTo x k).length = k := by simp [bytesTo]
theorem bytesTo_at (x : Int) (k i : Nat) (h : i < k) : (bytesTo x k).getD i 0 = byteAt x i := by
  simp [bytesTo, List.getD, h]
theorem byteAt_bd (x : Int) (i : Nat) : 0 ≤ byteAt x i ∧ byteAt x i < 256 := by unfold byteAt; omega
theorem byte_form (x : Int) (k : Nat) : x / 2 ^ (8 * k) % 256 = byteAt x k := by
  unfold byteAt pw; rw [show (8 * (k : Int)).toNat = 8 * k from by omega]

set_option maxHeartbeats 400000 in
theorem bytes_no (x n : Int) (w : World) (h : sizeB n = false) :
    Calls Tryd.prog 45 #[.int .u32 x, .int .i64 n] w fun e w' => e = .returned (.tuple #[.slice none 0 0, .int .i64 4]) ∧ w' = w := by
  go_enter Tryd.func45, Tryd.ntmps45
  go_wp2_with (go_at_call 58; refine (isSize_any _ _).mono ?_; rintro e w' ⟨rfl, rfl⟩)
  go_ret2
  exact ⟨rfl, rfl⟩

set_option maxHeartbeats 400000 in
theorem bytes_yes (x : Int) (n : Nat) (w : World) (hx0 : 0 ≤ x) (hx1 : x < 4294967296) (h : sizeB n = true) :
    Calls Tryd.prog 45 #[.int .u32 x, .int .i64 n] w fun e w' => ∃ v, e = .returned (.tuple #[v, .int .i64 0]) ∧ w'.ownsRow w.heap.size 5 1 v n ((bytesTo x n).map (Value.int .u8)) ∧ Below w.heap.size w w' := by
  have hn := sizeB_yes h
  have hn4 : n ≤ 4 := by omega
  obtain ⟨i0, hi, hz0, hz1, hz2⟩ := info_parts Tryd.info5
  go_enter Tryd.func45, Tryd.ntmps45
  go_wp2_with (go_at_call 58; refine (isSize_any _ _).mono ?_; rintro e w' ⟨rfl, hw⟩; have hw := hw.symm; subst hw)
  go_loopw [6, 12] (fun v i wr => ∃ k : Nat, k ≤ n ∧ i = .int .i64 k ∧ wr.ownsRow w.heap.size 5 1 v k ((bytesTo x k).map (Value.int .u8)) ∧ Below w.heap.size w wr) (fun _ i _ => n - (intOf i).toNat)
  case atStart => exact ⟨0, Nat.zero_le _, rfl, World.ownsRow_nil _ _ _ _, Below.refl _ _⟩
  case round =>
    obtain ⟨k, hk, rfl, hown, hb⟩ := hrel
    by_cases hlt : k < n
    · have hbf := byte_form x k
      go_wp2_with (at_builtin; refine wpList_append_own _ rfl _ _ 30 rfl w.heap.size 5 i0 (.int .u8 0) 1 1 Tryd.underlying30 hi hz0 hz1 hz2 rfl (by decide) _ _ _ rfl (hown.alloc _) ⟨wr.heap.size, 0, none⟩ 1 1 [.int .u8 (byteAt x k)] rfl rfl ?c1 ?c2 ?c3 ?c4 ?c5 ?_)
      case c1 =>
        intro j u hj
        match j, hj with
        | 0, hj => simp at hj; subst hj; simp [Addr.add]
      case c2 => intro u hu; simp at hu; subst hu; rfl
      case c3 => unfold maxLen; omega
      case c4 => omega
      case c5 => have := hb.size; simp; omega
      intro v' w1 hown' hgrow _
      have hb' : Below w.heap.size w w1 := (hb.alloc hb.size _).grown hgrow (by have := hb.size; simp; omega) (fun j hj => (hown.lt j hj).1)
      have ho : w1.ownsRow w.heap.size 5 1 v' (k + 1) ((bytesTo x (k + 1)).map (Value.int .u8)) := by
        rw [bytesTo_succ, List.map_append]; exact hown'
      clear hown' hgrow hown
      go_wp2
      go_roundw
      case rel => exact ⟨k + 1, by omega, by go_num, ho, hb'⟩
      case measure => simp [intOf]; omega
    · obtain rfl : k = n := by omega
      go_wp2
      go_ret2
      exact ⟨_, rfl, hown, hb⟩

set_option maxHeartbeats 400000 in
theorem rbytes_any (x : Int) (n : Nat) (w : World) (hx0 : 0 ≤ x) (hx1 : x < 4294967296) (hn : n ≤ 4) :
    Calls Tryd.prog 24 #[.int .u32 x, .int .i64 n] w fun e w' => ∃ v, e = .returned v ∧ w'.ownsRow w.heap.size 5 1 v n ((bytesTo x n).map (Value.int .u8)) ∧ Below w.heap.size w w' := by
  obtain ⟨i0, hi, hz0, hz1, hz2⟩ := info_parts Tryd.info5
  go_enter Tryd.func24, Tryd.ntmps24
  go_wp2
  go_loopw [5, 6] (fun v i wr => ∃ k : Nat, k ≤ n ∧ i = .int .i64 k ∧ wr.ownsRow w.heap.size 5 1 v k ((bytesTo x k).map (Value.int .u8)) ∧ Below w.heap.size w wr) (fun _ i _ => n - (intOf i).toNat)
  case atStart => exact ⟨0, Nat.zero_le _, rfl, World.ownsRow_made w _ 0 (Nat.le_refl _) (by decide) rfl, (Below.refl _ _).alloc (Nat.le_refl _) _⟩
  case round =>
    obtain ⟨k, hk, rfl, hown, hb⟩ := hrel
    by_cases hlt : k < n
    · have hp := pw_pos (8 * k)
      have hq := pw_le (8 * k) 32 (by omega)
      rw [pw_32] at hq
      obtain ⟨d1, d2⟩ := div_pw x (8 * k) hx0 hx1
      go_wp2_with (first | (at_builtin; (refine wpList_append_own _ rfl _ _ 30 rfl w.heap.size 5 i0 (.int .u8 0) 1 1 Tryd.underlying30 hi hz0 hz1 hz2 rfl (by decide) _ _ _ rfl (hown.alloc _) ⟨wr.heap.size, 0, none⟩ 1 1 [.int .u8 (byteAt x k)] rfl rfl ?c1 ?c2 ?c3 ?c4 ?c5 ?_)) | (go_at_call 46; refine (power_any _ _ ?_ ?_).mono ?_; omega; omega; rintro e w' ⟨rfl, hw⟩; have hw := hw.symm; subst hw))
      case c1 =>
        intro j u hj
        match j, hj with
        | 0, hj => simp at hj; subst hj; simp [Addr.add, byteAt]
      case c2 => intro u hu; simp at hu; subst hu; rfl
      case c3 => unfold maxLen; omega
      case c4 => omega
      case c5 => have := hb.size; simp; omega
      intro v' w1 hown' hgrow _
      have hb' : Below w.heap.size w w1 := (hb.alloc hb.size _).grown hgrow (by have := hb.size; simp; omega) (fun j hj => (hown.lt j hj).1)
      have ho : w1.ownsRow w.heap.size 5 1 v' (k + 1) ((bytesTo x (k + 1)).map (Value.int .u8)) := by
        rw [bytesTo_succ, List.map_append]; exact hown'
      clear hown' hgrow hown
      go_wp2
      go_roundw
      case rel => exact ⟨k + 1, by omega, by go_num, ho, hb'⟩
      case measure => simp [intOf]; omega
    · obtain rfl : k = n := by omega
      go_wp2
      go_ret
      exact ⟨_, rfl, hown, hb⟩
end Go.Proofs.YtcigceaadkjenaaDoor
