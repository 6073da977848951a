/- What word.Hex answers: eight digits, the highest first; it makes memory of its own and turns none that was there. -/
import Derived.Test.YtcigceaadkjenaaDoorBase
import Derived.Laws.IdiomStrings
import Derived.Laws.BytesArg
namespace Go.Proofs.YtcigceaadkjenaaDoor
open Go.RowKit
set_option linter.unusedVariables false
set_option maxRecDepth 100000

/-- The sign of a digit from 0 to 15. -/
def hexDig (d : Int) : Int := if d < 10 then 48 + d else 87 + d
/-- The i-th digit of x, the highest first. -/
def hexAt (x : Int) (i : Nat) : Int := hexDig (bitsOf x (28 - 4 * i) 4)
/-- The first k digits of x. -/
def hexTo (x : Int) (k : Nat) : List Int := (List.range k).map (hexAt x)

theorem hexTo_succ (x : Int) (k : Nat) : hexTo x (k + 1) = hexTo x k ++ [hexAt x k] := by
  unfold hexTo; rw [List.range_succ, List.map_append]; rfl
theorem hexTo_len (x : Int) (k : Nat) : (hexTo x k).length = k := by simp [hexTo]

theorem hexStep (x : Int) (k : Nat) (h0 : 0 ≤ x) (h1 : x < 4294967296) (hk : k < 8) :
    ∃ D : Int, bits .and .u32 (x / 2 ^ (28 - 4 * k)) 15 = D ∧ Hid (D = bitsOf x (28 - 4 * k) 4) ∧ 0 ≤ D ∧ D < 16 := by
  have e : (x / 2 ^ (28 - 4 * k) : Int) = x / pw (28 - 4 * k) := by
    unfold pw; rw [show (28 - 4 * (k : Int)).toNat = 28 - 4 * k from by omega]
  have d := div_pw x (28 - 4 * k) h0 h1
  have a := and_low (x / pw (28 - 4 * k)) 4 d.1 d.2 (by omega) (by omega)
  have p : pw 4 = 16 := by decide
  rw [p] at a
  refine ⟨bitsOf x (28 - 4 * k) 4, ?_, rfl, bitsOf_nn _ _ _, ?_⟩
  · rw [e]; unfold bitsOf; rw [p]; exact a
  · have := bitsOf_lt x (28 - 4 * k) 4; rw [p] at this; exact this

theorem digTab (D : Int) (h0 : 0 ≤ D) (h1 : D < 16) : ∀ h : D.toNat < (ByteArray.mk #[48, 49, 50, 51, 52, 53, 54, 55, 56, 57, 97, 98, 99, 100, 101, 102]).size,
    (((ByteArray.mk #[48, 49, 50, 51, 52, 53, 54, 55, 56, 57, 97, 98, 99, 100, 101, 102])[D.toNat]'h).toNat : Int) = hexDig D := by
  have hn : D = 0 ∨ D = 1 ∨ D = 2 ∨ D = 3 ∨ D = 4 ∨ D = 5 ∨ D = 6 ∨ D = 7 ∨ D = 8 ∨ D = 9 ∨ D = 10 ∨ D = 11 ∨ D = 12 ∨ D = 13 ∨ D = 14 ∨ D = 15 := by omega
  rcases hn with rfl | rfl | rfl | rfl | rfl | rfl | rfl | rfl | rfl | rfl | rfl | rfl | rfl | rfl | rfl | rfl <;> (intro h; rfl)
theorem Tryd.info5 : (Tryd.prog.info? 5).map (fun i => (i.zero, i.size, i.bytes)) = some (some (.int .u8 0), 1, 1) := by kernel_rfl

set_option maxHeartbeats 400000 in
theorem hex_any (x : Int) (w : World) (hx0 : 0 ≤ x) (hx1 : x < 4294967296) :
    Calls Tryd.prog 40 #[.int .u32 x] w fun e w' => e = .returned (.string (strOfNums (hexTo x 8))) ∧ Below w.heap.size w w' := by
  have hmk : ∀ w : World, (Instr.makeSlice 30 (.int .i64 0) (.int .i64 8)).run Tryd.prog w = .ok (.slice (some ⟨w.heap.size, 0, none⟩) 0 8) (w.alloc (.cells #[.int .u8 0, .int .u8 0, .int .u8 0, .int .u8 0, .int .u8 0, .int .u8 0, .int .u8 0, .int .u8 0] 5)) := fun _ => by kernel_rfl
  obtain ⟨i0, hi, hz0, hz1, hz2⟩ := info_parts Tryd.info5
  go_enter Tryd.func40, Tryd.ntmps40
  go_wp2
  go_loopw [3, 6] (fun v i wr => ∃ k : Nat, k ≤ 8 ∧ i = .int .i64 k ∧ wr.ownsRow w.heap.size 5 1 v k ((hexTo x k).map (Value.int .u8)) ∧ Below w.heap.size w wr) (fun _ i _ => 8 - (intOf i).toNat)
  case atStart => exact ⟨0, Nat.zero_le _, rfl, World.ownsRow_made w _ 8 (Nat.le_refl _) (by decide) rfl, (Below.refl _ _).alloc (Nat.le_refl _) _⟩
  case round =>
    obtain ⟨k, hk, rfl, hown, hb⟩ := hrel
    by_cases hlt : k < 8
    · obtain ⟨D, hD, HD, d0, d1⟩ : ∃ D : Int, bits .and .u32 (x / 2 ^ (28 - 4 * k)) 15 = D ∧ Hid (D = bitsOf x (28 - 4 * k) 4) ∧ 0 ≤ D ∧ D < 16 := hexStep x k hx0 hx1 hlt
      have hdg := digTab D d0 d1
      go_wp2_with (at_builtin; refine wpList_append_own _ rfl _ _ 30 rfl w.heap.size 5 i0 (.int .u8 0) 1 1 Tryd.underlying30 hi hz0 hz1 hz2 rfl (by decide) _ _ _ rfl (hown.alloc _) ⟨wr.heap.size, 0, none⟩ 1 1 [.int .u8 (hexDig D)] rfl rfl ?c1 ?c2 ?c3 ?c4 ?c5 ?_)
      case c1 =>
        intro j u hj
        match j, hj with
        | 0, hj => simp at hj; subst hj; simp [Addr.add]
      case c2 => intro u hu; simp at hu; subst hu; rfl
      case c3 => unfold maxLen; omega
      case c4 => omega
      case c5 => have := hb.size; simp; omega
      intro v' w1 hown' hgrow _
      have hb' : Below w.heap.size w w1 := (hb.alloc hb.size _).grown hgrow (by have := hb.size; simp; omega) (fun j hj => (hown.lt j hj).1)
      have ho : w1.ownsRow w.heap.size 5 1 v' (k + 1) ((hexTo x (k + 1)).map (Value.int .u8)) := by
        rw [hexTo_succ, List.map_append]
        have e : hexAt x k = hexDig D := by rw [HD.out]; rfl
        rw [e]; exact hown'
      clear hown' hgrow hown
      go_wp2
      go_roundw
      case rel => exact ⟨k + 1, by omega, by go_num, ho, hb'⟩
      case measure => simp [intOf]; omega
    · obtain rfl : k = 8 := by omega
      obtain ⟨g, cap, rfl⟩ := owned_some hown (by omega)
      have hcv := run_convert_bytes_arg (P := Tryd.prog) wr 30 5 Tryd.underlying30 Tryd.underlying5 g 0 8 cap (hexTo x 8) (hexTo_len x 8) (fun i hi => by
        rw [Nat.zero_add, hown.cellAt i (by omega), List.getElem?_map, List.getElem?_eq_getElem (by rw [hexTo_len]; exact hi)]
        simp [List.getD, hexTo_len, hi]) 9 Tryd.underlying9
      go_wp2
      go_ret
      exact ⟨rfl, hb⟩
end Go.Proofs.YtcigceaadkjenaaDoor
