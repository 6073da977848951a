/- The walks of mimesislaw01.WordBytes and WordNumbers: they answer true and turn nothing that was there. -/
import Derived.Test.YtmkhbkccpoegfaaNumbers
import Derived.Test.YtmkhbkccpoegfaaAwake
import Derived.Test.YtmkhbkccpoegfaaFrame
namespace Go.Proofs.Ytmkhbkccpoegfaa
open Go.RowKit
set_option linter.unusedVariables false

theorem num_bytes (x : Int) (n : Nat) (h0 : 0 ≤ x) (h1 : x < 4294967296) (h : sizeB n = true) : numTo (byteAt x) n = bitsOf x 0 (8 * n) := by
  have hn := sizeB_yes h
  have p0 : pw 0 = 1 := by decide
  have p8 : pw 8 = 256 := by decide
  have p16 : pw 16 = 65536 := by decide
  have p24 : pw 24 = 16777216 := by decide
  have e : n = 1 ∨ n = 2 ∨ n = 4 := by omega
  rcases e with rfl | rfl | rfl
  · simp [numTo, byteAt, bitsOf, p0, p8]
  · simp [numTo, byteAt, bitsOf, p0, p8, p16]; omega
  · simp [numTo, byteAt, bitsOf, p0, p8, p16, p24, pw_32]; omega

namespace wordBytes
set_option maxHeartbeats 400000 in
theorem walk (a0 : Int) (a1 : Int) (w : World) (w0 : (Lit.int .u32 a0).wf = true) (w1 : (Lit.int .i64 a1).wf = true) :
    Calls Try.prog 5 #[.int .u32 a0, .int .i64 a1] w fun e w' => e = .returned (.bool true) ∧ Below w.heap.size w w' := by
  have x0 := bounds_u32 w0
  cases hf : sizeB a1 with
  | false =>
    go_enter Try.func5, Try.ntmps5
    go_wp2_with fail
    refine (bytes_no _ _ _ hf).mono ?_
    rintro e w1 ⟨rfl, hw⟩
    subst hw
    go_wp2_with fail
    refine (width_any _ _).mono ?_
    rintro e w1 ⟨rfl, hw⟩
    subst hw
    go_wp2_with fail
    refine (awake_any _).mono ?_
    rintro e w1 ⟨rfl, hb⟩
    go_wp2
    go_ret
    exact ⟨rfl, hb⟩
  | true =>
    have hn := sizeB_yes hf
    obtain ⟨n, rfl⟩ := Int.eq_ofNat_of_zero_le (show 0 ≤ a1 by omega)
    have hn4 : n ≤ 4 := by omega
    have hn0 : 0 < n := by omega
    have g1 := num_bytes a0 n (by omega) (by omega) hf
    go_enter Try.func5, Try.ntmps5
    go_wp2_with fail
    refine (bytes_yes _ _ _ (by omega) (by omega) hf).mono ?_
    rintro e w1 ⟨v, rfl, hown, hb⟩
    obtain ⟨g, cap, rfl⟩ := owned_some hown hn0
    have hc : ∀ i, i < n → w1.cell? ⟨g, 0 + i, none⟩ = some (.int .u8 (byteAt a0 i)) := by
      intro i hi
      rw [Nat.zero_add, hown.cellAt i (by omega)]
      simp [bytesTo, hi]
    have hgl := hown.lt g rfl
    clear hown
    have HC : Hid (∀ i, i < n → w1.cell? ⟨g, 0 + i, none⟩ = some (.int .u8 (byteAt a0 i))) := hc
    clear hc
    go_wp2_with fail
    refine (width_any _ _).mono ?_
    rintro e w2 ⟨rfl, hw⟩
    subst hw
    go_wp2_with fail
    refine (number_yes (byteAt a0) _ _ _ _ _ hf (fun i _ => byteAt_bd a0 i) (by exact HC.out)).mono ?_
    rintro e w2 ⟨rfl, hw⟩
    have hw := hw.symm
    subst hw
    go_wp2_with fail
    refine (rbytes_any _ _ _ (by omega) (by omega) (by omega)).mono ?_
    rintro e w3 ⟨v, rfl, hown, hb3⟩
    obtain ⟨g', cap', rfl⟩ := owned_some hown hn0
    have HC' : Hid (∀ i, i < n → w3.cell? ⟨g', 0 + i, none⟩ = some (.int .u8 (byteAt a0 i))) := by
      intro i hi
      rw [Nat.zero_add, hown.cellAt i (by omega)]
      simp [bytesTo, hi]
    have HC3 : Hid (∀ i, i < n → w3.cell? ⟨g, 0 + i, none⟩ = some (.int .u8 (byteAt a0 i))) := by
      intro i hi
      rw [hb3.cell (p := ⟨g, 0 + i, none⟩) hgl.2]
      exact HC.out i hi
    clear hown
    go_wp2_with fail
    refine (same_yes (byteAt a0) _ _ _ _ _ _ _ _ (by unfold maxLen; omega) (by exact HC3.out) (by exact HC'.out)).mono ?_
    rintro e w4 ⟨rfl, hq⟩
    go_wp2_with fail
    refine (rbits_any _ _ _ _ (by omega) (by omega) (by omega) (by omega) (by omega) (by omega)).mono ?_
    rintro e w5 ⟨rfl, hq5⟩
    go_wp2_with fail
    refine (awake_any _).mono ?_
    rintro e w6 ⟨rfl, hb6⟩
    go_wp2
    go_ret
    have s1 := hb.size
    have s3 := hb3.size
    have q4 := hq.below w.heap.size
    have q5 := hq5.below w.heap.size
    have s4 := q4.size
    have s5 := q5.size
    exact ⟨rfl, (((hb.trans (hb3.mono s1)).trans q4).trans q5).trans (hb6.mono (by omega))⟩
end wordBytes

namespace wordNumbers
set_option maxHeartbeats 400000 in
theorem walk (a0 : Option Addr) (len0 cap0 : Nat) (z0 : List Int) (w : World) (w0 : IsRow .u8 w a0 len0 cap0 z0) :
    Calls Try.prog 6 #[.slice a0 len0 cap0] w fun e w' => e = .returned (.bool true) ∧ Below w.heap.size w w' := by
  have hl0 : len0 ≤ maxLen := by
    rcases w0 with ⟨rfl, rfl, rfl, rfl⟩ | ⟨x, rfl, hl, hm, hz, hcell, hwz⟩
    · exact Nat.zero_le _
    · omega
  cases hf : sizeB len0 with
  | false =>
    have HM := hl0
    unfold maxLen at hl0
    go_enter Try.func6, Try.ntmps6
    go_wp2_with fail
    refine (number_no _ _ _ _ HM hf).mono ?_
    rintro e w1 ⟨rfl, hw⟩
    have hw := hw.symm
    subst hw
    go_wp2_with fail
    refine (width_any _ _).mono ?_
    rintro e w1 ⟨rfl, hw⟩
    have hw := hw.symm
    subst hw
    go_wp2_with fail
    refine (awake_any _).mono ?_
    rintro e w1 ⟨rfl, hb⟩
    go_wp2
    go_ret
    exact ⟨rfl, hb⟩
  | true =>
    have hn := sizeB_yes hf
    rcases w0 with ⟨rfl, rfl, rfl, rfl⟩ | ⟨x, rfl, hl, hm, hz, hcell, hwz⟩
    · simp at hn
    · obtain ⟨b, off, spot⟩ := x
      have hspot : spot = none := by simpa [Addr.add] using World.cell?_spot (hcell 0 (by omega))
      subst hspot
      have HC : Hid (∀ i, i < len0 → w.cell? ⟨b, off + i, none⟩ = some (.int .u8 (z0.getD i 0))) := fun i hi => by
        rw [← add_plain]; exact hcell i (by omega)
      have HZ : Hid (∀ i, i < len0 → 0 ≤ z0.getD i 0 ∧ z0.getD i 0 < 256) := fun i hi => by
        have := range_u8 hwz i
        simp only [List.getD]
        omega
      clear hcell hwz hz
      go_enter Try.func6, Try.ntmps6
      go_wp2_with fail
      refine (number_yes (fun i => z0.getD i 0) _ _ _ _ _ hf HZ.out HC.out).mono ?_
      rintro e w1 ⟨rfl, hw⟩
      have hw := hw.symm
      subst hw
      go_wp2_with fail
      refine (width_any _ _).mono ?_
      rintro e w1 ⟨rfl, hw⟩
      have hw := hw.symm
      subst hw
      go_wp2_with fail
      refine (rnumber_any (fun i => z0.getD i 0) _ _ _ _ _ (by omega) HZ.out HC.out).mono ?_
      rintro e w1 ⟨rfl, hq⟩
      go_wp2_with fail
      refine (awake_any _).mono ?_
      rintro e w2 ⟨rfl, hb⟩
      go_wp2
      go_ret
      have q4 := hq.below w.heap.size
      exact ⟨rfl, q4.trans (hb.mono q4.size)⟩
end wordNumbers
end Go.Proofs.Ytmkhbkccpoegfaa
