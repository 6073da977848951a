/- The walk of mimesislaw01.WordHexes: it answers true and turns nothing that was there. -/
import Derived.Test.YtmkhbkccpoegfaaUnhex
import Derived.Test.YtmkhbkccpoegfaaAwake
import Derived.OpenShut
namespace Go.Proofs.Ytmkhbkccpoegfaa
open Go.RowKit
set_option linter.unusedVariables false

theorem dig_bd (d : Int) (h0 : 0 ≤ d) (h1 : d < 16) : 0 ≤ dig d ∧ dig d < 256 := by unfold dig; split <;> omega
theorem digVal_dig (d : Int) (h0 : 0 ≤ d) (h1 : d < 16) : digVal (dig d) = d := by
  have hn : d = 0 ∨ d = 1 ∨ d = 2 ∨ d = 3 ∨ d = 4 ∨ d = 5 ∨ d = 6 ∨ d = 7 ∨ d = 8 ∨ d = 9 ∨ d = 10 ∨ d = 11 ∨ d = 12 ∨ d = 13 ∨ d = 14 ∨ d = 15 := by omega
  rcases hn with rfl | rfl | rfl | rfl | rfl | rfl | rfl | rfl | rfl | rfl | rfl | rfl | rfl | rfl | rfl | rfl <;> decide

theorem bits4 (x a : Int) : 0 ≤ bitsOf x a 4 ∧ bitsOf x a 4 < 16 := ⟨bitsOf_nn _ _ _, bitsOf_lt x a 4⟩

theorem sign_hex (x : Int) (i : Nat) (h : i < 8) : signAt (strOfNums (hexTo x 8)) i = hexAt x i := by
  have b := bits4 x (28 - 4 * i)
  have d := dig_bd _ b.1 b.2
  unfold signAt strOfNums hexTo
  simp only [List.map_map, List.getElem?_toArray, List.getElem?_map, List.getElem?_range h]
  simp only [Option.map_some, Option.getD_some, Function.comp]
  have e : ((UInt8.ofNat (hexAt x i).toNat).toNat : Int) = hexAt x i := by
    unfold hexAt
    simp
    omega
  exact e

theorem hex_val (x : Int) (h0 : 0 ≤ x) (h1 : x < 4294967296) : valTo (signAt (strOfNums (hexTo x 8))) 8 = x := by
  have s := fun i h => sign_hex x i h
  have v : ∀ i, i < 8 → digVal (signAt (strOfNums (hexTo x 8)) i) = bitsOf x (28 - 4 * i) 4 := fun i h => by
    rw [s i h]; unfold hexAt; have b := bits4 x (28 - 4 * i); exact digVal_dig _ b.1 b.2
  simp only [valTo]
  rw [v 0 (by omega), v 1 (by omega), v 2 (by omega), v 3 (by omega), v 4 (by omega), v 5 (by omega), v 6 (by omega), v 7 (by omega)]
  have p0 : pw 0 = 1 := by decide
  have p4 : pw 4 = 16 := by decide
  have p8 : pw 8 = 256 := by decide
  have p12 : pw 12 = 4096 := by decide
  have p16 : pw 16 = 65536 := by decide
  have p20 : pw 20 = 1048576 := by decide
  have p24 : pw 24 = 16777216 := by decide
  have p28 : pw 28 = 268435456 := by decide
  simp [bitsOf, p0, p4, p8, p12, p16, p20, p24, p28]
  omega

theorem hex_digits (x : Int) (i : Nat) (h : i < 8) : 0 ≤ digVal (signAt (strOfNums (hexTo x 8)) i) := by
  rw [sign_hex x i h]; unfold hexAt; have b := bits4 x (28 - 4 * i); rw [digVal_dig _ b.1 b.2]; exact b.1

namespace wordHexes
set_option maxHeartbeats 400000 in
theorem walk (a0 : Int) (s1 : ByteArray) (w : World) (w0 : (Lit.int .u32 a0).wf = true) (w1 : s1.size ≤ maxLen) :
    Calls Try.prog 7 #[.int .u32 a0, .string s1] w fun e w' => e = .returned (.bool true) ∧ Below w.heap.size w w' := by
  have x0 := bounds_u32 w0
  have hT : (strOfNums (hexTo a0 8)).size = 8 := by rw [strOfNums_size, hexTo_len]
  have hV : valTo (signAt (strOfNums (hexTo a0 8))) 8 = a0 := hex_val a0 (by omega) (by omega)
  have HT : Hid (∀ i, i < (strOfNums (hexTo a0 8)).size → 0 ≤ digVal (signAt (strOfNums (hexTo a0 8)) i)) := by
    rw [hT]; exact fun i h => hex_digits a0 i h
  have HX : Hid (∀ w : World, Calls Try.prog 24 #[.int .u32 a0] w fun e w' => e = .returned (.string (strOfNums (hexTo a0 8))) ∧ Below w.heap.size w w') := fun w => hex_any a0 w (by omega) (by omega)
  have HR : Hid (∀ w : World, Calls Try.prog 27 #[.int .u32 a0] w fun e w' => e = .returned (.string (strOfNums (hexTo a0 8))) ∧ Q w w') := fun w => rhex_any a0 w (by omega) (by omega)
  generalize strOfNums (hexTo a0 8) = T at *
  rcases (show (s1.size < 1 ∨ 8 < s1.size) ∨ (1 ≤ s1.size ∧ s1.size ≤ 8) by omega) with hsh | ⟨h0, h8⟩
  · have HS : Hid (s1.size < 1 ∨ 8 < s1.size) := hsh
    have HW : Hid (s1.size ≤ maxLen) := w1
    clear hsh w1
    go_enter Try.func7, Try.ntmps7
    go_wp2_with fail
    refine (HX.out _).mono ?_
    rintro e w1 ⟨rfl, hb⟩
    go_wp2_with fail
    refine (unhex_yes T _ (by omega) (by omega) HT.out).mono ?_
    rintro e w2 ⟨rfl, hw⟩
    have hw := hw.symm
    subst hw
    go_wp2_with fail
    refine (unhex_short s1 _ HW.out HS.out).mono ?_
    rintro e w2 ⟨rfl, hw⟩
    have hw := hw.symm
    subst hw
    go_wp2_with fail
    refine (runhex_short s1 _ HW.out HS.out).mono ?_
    rintro e w2 ⟨rfl, hw⟩
    have hw := hw.symm
    subst hw
    go_wp2_with fail
    refine (HR.out _).mono ?_
    rintro e w2 ⟨rfl, hq⟩
    go_wp2_with fail
    refine (awake_any _).mono ?_
    rintro e w3 ⟨rfl, hb3⟩
    go_wp2
    go_ret
    have q := hq.below w.heap.size
    have s1 := hb.size
    have s2 := q.size
    exact ⟨rfl, (hb.trans q).trans (hb3.mono (by omega))⟩
  · by_cases hall : ∀ i, i < s1.size → 0 ≤ digVal (signAt s1 i)
    · have HA : Hid (∀ i, i < s1.size → 0 ≤ digVal (signAt s1 i)) := hall
      clear hall w1
      go_enter Try.func7, Try.ntmps7
      go_wp2_with fail
      refine (HX.out _).mono ?_
      rintro e w1 ⟨rfl, hb⟩
      go_wp2_with fail
      refine (unhex_yes T _ (by omega) (by omega) HT.out).mono ?_
      rintro e w2 ⟨rfl, hw⟩
      have hw := hw.symm
      subst hw
      go_wp2_with fail
      refine (unhex_yes s1 _ h0 h8 HA.out).mono ?_
      rintro e w2 ⟨rfl, hw⟩
      have hw := hw.symm
      subst hw
      go_wp2_with fail
      refine (runhex_yes s1 _ h0 h8 HA.out).mono ?_
      rintro e w2 ⟨rfl, hw⟩
      have hw := hw.symm
      subst hw
      go_wp2_with fail
      refine (HR.out _).mono ?_
      rintro e w2 ⟨rfl, hq⟩
      go_wp2_with fail
      refine (awake_any _).mono ?_
      rintro e w3 ⟨rfl, hb3⟩
      go_wp2
      go_ret
      have q := hq.below w.heap.size
      have s1 := hb.size
      have s2 := q.size
      exact ⟨rfl, (hb.trans q).trans (hb3.mono (by omega))⟩
    · obtain ⟨j, hj⟩ := Classical.not_forall.1 hall
      obtain ⟨hjs, hd⟩ := Classical.not_imp.1 hj
      have HB : Hid (digVal (signAt s1 j) < 0) := by
        show digVal (signAt s1 j) < 0
        omega
      clear hall hj hd w1
      go_enter Try.func7, Try.ntmps7
      go_wp2_with fail
      refine (HX.out _).mono ?_
      rintro e w1 ⟨rfl, hb⟩
      go_wp2_with fail
      refine (unhex_yes T _ (by omega) (by omega) HT.out).mono ?_
      rintro e w2 ⟨rfl, hw⟩
      have hw := hw.symm
      subst hw
      go_wp2_with fail
      refine (unhex_bad s1 _ h0 h8 j hjs HB.out).mono ?_
      rintro e w2 ⟨rfl, hw⟩
      have hw := hw.symm
      subst hw
      go_wp2_with fail
      refine (runhex_bad s1 _ h0 h8 j hjs HB.out).mono ?_
      rintro e w2 ⟨rfl, hw⟩
      have hw := hw.symm
      subst hw
      go_wp2_with fail
      refine (HR.out _).mono ?_
      rintro e w2 ⟨rfl, hq⟩
      go_wp2_with fail
      refine (awake_any _).mono ?_
      rintro e w3 ⟨rfl, hb3⟩
      go_wp2
      go_ret
      have q := hq.below w.heap.size
      have s1 := hb.size
      have s2 := q.size
      exact ⟨rfl, (hb.trans q).trans (hb3.mono (by omega))⟩
end wordHexes
end Go.Proofs.Ytmkhbkccpoegfaa
