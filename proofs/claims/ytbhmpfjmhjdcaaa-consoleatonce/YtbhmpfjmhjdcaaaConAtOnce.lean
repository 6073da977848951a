/- Layer 12: the walk of ConsoleAtOnce. -/
import Derived.Test.YtbhmpfjmhjdcaaaConAwake
import Derived.Test.YtbhmpfjmhjdcaaaConRef
import Derived.Test.YtbhmpfjmhjdcaaaConOpen
namespace Go.Proofs.Ytbhmpfjmhjdcaaa
open Go.RowKit
set_option linter.unusedVariables false

/-- What came up to one tick, and then to another one, is what came to the latter at once. -/
theorem CS.upN_upN {T Y : Nat → Int} {a b : Int} (hab : a ≤ b) : ∀ (k : Nat) (s : CS) (K : Nat), K - s.c = k → (s.up K T Y a).up K T Y b = s.up K T Y b
  | 0, s, K, h => by rw [CS.up_end (s := s) (t := a) (.inl (by omega))]
  | k + 1, s, K, h => by
    by_cases c : T s.c ≤ a
    · rw [CS.up_go (t := a) (by omega) c, CS.up_go (s := s) (t := b) (by omega) (Int.le_trans c hab)]
      exact CS.upN_upN hab k (s.come Y) K (by rw [CS.come_c]; omega)
    · rw [CS.up_end (s := s) (t := a) (.inr (by omega))]
theorem CS.up_up {K : Nat} {T Y : Nat → Int} {a b : Int} (s : CS) (hab : a ≤ b) : (s.up K T Y a).up K T Y b = s.up K T Y b := CS.upN_upN hab _ s K rfl

namespace consoleAtOnce
set_option maxRecDepth 100000 in
set_option maxHeartbeats 800000 in
theorem awakes (a : Option Addr) (len cap : Nat) (T Y : Nat → Int) (p q : Int) (w : World) (ha : IsArr w a len cap T Y) (h : 300 < len ∨ (256 < len ∨ ¬ Rises len T) ∨ q < p) :
    Calls Try.prog 4 #[.slice a len cap, .int .u64 p, .int .u64 q] w fun e w' => e = .returned (.bool true) ∧ Below w.heap.size w w' := by
  have hm := ha.1
  unfold maxLen at hm
  have HA := Lib.hid ha
  clear ha
  by_cases h1 : 300 < len
  · clear h
    go_enter Try.func4, Try.ntmps4
    go_wp2_with fail
    refine (awake12_any _).mono ?_
    rintro e w1 ⟨rfl, hb⟩
    go_wp2
    go_ret
    exact ⟨rfl, hb⟩
  · by_cases h2 : 256 < len ∨ ¬ Rises len T
    · have HR : Hid (∃ z : Int, (z != 0) = true ∧ Calls Try.prog 9 #[.slice a len cap] w fun e w' => e = .returned (.int .i64 z) ∧ Q w w') := by
        by_cases h3 : 256 < len
        · refine ⟨3, by decide, (rright_long a len cap w (by unfold maxLen; omega) h3).mono ?_⟩
          rintro e w' ⟨rfl, rfl⟩
          exact ⟨rfl, Q.refl _⟩
        · refine ⟨1, by decide, rright_form w (by omega) HA.out ?_⟩
          rcases h2 with h2 | h2
          · exact absurd h2 h3
          · exact h2
      obtain ⟨z, hz, hr⟩ := HR.out
      have HR2 := Lib.hid hr
      clear h h2 HR hr
      go_enter Try.func4, Try.ntmps4
      go_wp2_with fail
      refine HR2.out.mono ?_
      rintro e w1 ⟨rfl, hq⟩
      have HB1 := Lib.hid (hq.below w.heap.size)
      clear hq
      go_wp2_with fail
      refine (awake12_any _).mono ?_
      rintro e w2 ⟨rfl, hb⟩
      have HB2 : Hid (Below w.heap.size w w2) := HB1.out.trans (hb.mono HB1.out.size)
      clear hb
      go_wp2
      go_ret
      exact ⟨rfl, HB2.out⟩
    · have hqp : q < p := by
        rcases h with h | h | h
        · exact absurd h h1
        · exact absurd h h2
        · exact h
      have HR2 : Hid (Calls Try.prog 9 #[.slice a len cap] w fun e w' => e = .returned (.int .i64 0) ∧ Q w w') :=
        rright_yes w (Nat.le_of_not_lt (fun h => h2 (.inl h))) HA.out (Classical.byContradiction fun h => h2 (.inr h))
      clear h h2
      go_enter Try.func4, Try.ntmps4
      go_wp2_with fail
      refine HR2.out.mono ?_
      rintro e w1 ⟨rfl, hq⟩
      have HB1 := Lib.hid (hq.below w.heap.size)
      clear hq
      go_wp2_with fail
      refine (awake12_any _).mono ?_
      rintro e w2 ⟨rfl, hb⟩
      have HB2 : Hid (Below w.heap.size w w2) := HB1.out.trans (hb.mono HB1.out.size)
      clear hb
      go_wp2
      go_ret
      exact ⟨rfl, HB2.out⟩

set_option maxRecDepth 100000 in
set_option maxHeartbeats 3200000 in
theorem yes (a : Option Addr) (len cap : Nat) (T Y : Nat → Int) (p q : Int) (w : World) (ha : IsArr w a len cap T Y) (hl : len ≤ 256) (hr : Rises len T) (hpq : p ≤ q) :
    Calls Try.prog 4 #[.slice a len cap, .int .u64 p, .int .u64 q] w fun e w' => e = .returned (.bool true) ∧ Below w.heap.size w w' := by
  have HA := Lib.hid ha
  have HRI := Lib.hid hr
  have HR2 : Hid (Calls Try.prog 9 #[.slice a len cap] w fun e w' => e = .returned (.int .i64 0) ∧ Q w w') := rright_yes w hl ha hr
  have HL := Lib.hid hl
  have hnq : ¬ q < p := by omega
  have HPQ := Lib.hid hpq
  clear ha hr hpq
  go_enter Try.func4, Try.ntmps4
  go_wp2_with fail
  refine HR2.out.mono ?_
  rintro e w1 ⟨rfl, hq⟩
  have HB1 := Lib.hid (hq.below w.heap.size)
  clear hq
  go_wp2_with fail
  refine (cnew_yes w1 HL.out (HA.out.on HB1.out) HRI.out).mono ?_
  rintro e w2 ⟨X, SX, rfl, hc, hs, hb⟩
  have HX2 := Lib.hid hc
  have HSX : Hid (∀ k, SX k → w.heap.size ≤ k) := fun k hk => Nat.le_trans HB1.out.size (hs k hk)
  have HLX := Lib.hid hc.lt
  have HB2 : Hid (Below w.heap.size w w2) := HB1.out.trans (hb.mono HB1.out.size)
  clear hc hs hb
  go_wp2_with fail
  refine (cnew_yes w2 HL.out (HA.out.on HB2.out) HRI.out).mono ?_
  rintro e w3 ⟨Z, SZ, rfl, hc, hs, hb⟩
  have HX3 := Lib.hid (HX2.out.on hb)
  have HZ3 := Lib.hid hc
  have HSZ : Hid (∀ k, SZ k → w.heap.size ≤ k) := fun k hk => Nat.le_trans HB2.out.size (hs k hk)
  have HXZ : Hid (∀ k, SX k → ¬ SZ k) := fun k hk h2 => by have := HLX.out k hk; have := hs k h2; omega
  have HB3 : Hid (Below w.heap.size w w3) := HB2.out.trans (hb.mono HB2.out.size)
  clear hc hs hb
  go_wp2_with fail
  refine (cup_any p w3 HX3.out).mono ?_
  rintro e w4 ⟨rfl, hc, hf⟩
  have HX4 := Lib.hid hc
  have HZ4 := Lib.hid (HZ3.out.fr hf (fun k h h2 => HXZ.out k h2 h))
  have HB4 : Hid (Below w.heap.size w w4) := HB3.out.trans (hf.below HSX.out HB3.out.size)
  clear hc hf
  go_wp2_with fail
  refine (cup_any q w4 HX4.out).mono ?_
  rintro e w5 ⟨rfl, hc, hf⟩
  rw [CS.up_up _ HPQ.out] at hc
  have HX5 := Lib.hid hc
  have HZ5 := Lib.hid (HZ4.out.fr hf (fun k h h2 => HXZ.out k h2 h))
  have HB5 : Hid (Below w.heap.size w w5) := HB4.out.trans (hf.below HSX.out HB4.out.size)
  clear hc hf
  go_wp2_with fail
  refine (cup_any q w5 HZ5.out).mono ?_
  rintro e w6 ⟨rfl, hc, hf⟩
  have HZ6 := Lib.hid hc
  have HX6 := Lib.hid (HX5.out.fr hf HXZ.out)
  have HB6 : Hid (Below w.heap.size w w6) := HB5.out.trans (hf.below HSZ.out HB5.out.size)
  clear hc hf
  generalize CS.up len T Y q CS.new = s at HX6 HZ6
  go_wp2_with fail
  refine (cwaits_any w6 HX6.out).mono ?_
  rintro e w7 ⟨v7, rfl, hv, hb⟩
  have HV7 := Lib.hid hv
  have HX7 := Lib.hid (HX6.out.on hb)
  have HZ7 := Lib.hid (HZ6.out.on hb)
  have HB7 : Hid (Below w.heap.size w w7) := HB6.out.trans (hb.mono HB6.out.size)
  clear hv hb
  go_wp2_with fail
  refine (cwaits_any w7 HZ7.out).mono ?_
  rintro e w8 ⟨v8, rfl, hv, hb⟩
  have HV8 := Lib.hid hv
  have HV7' := Lib.hid (HV7.out.on hb)
  have HX8 := Lib.hid (HX7.out.on hb)
  have HZ8 := Lib.hid (HZ7.out.on hb)
  have HB8 : Hid (Below w.heap.size w w8) := HB7.out.trans (hb.mono HB7.out.size)
  clear hv hb
  go_wp2_with fail
  refine (same11 (by have := HX8.out.le; omega) HV7'.out HV8.out).mono ?_
  rintro e w9 ⟨rfl, hq⟩
  have HX9 := Lib.hid (HX8.out.q hq)
  have HZ9 := Lib.hid (HZ8.out.q hq)
  have HB9 : Hid (Below w.heap.size w w9) := HB8.out.trans (hq.below _)
  clear hq
  go_wp2_with fail
  refine (cover_any w9 HX9.out).mono ?_
  rintro e w' ⟨rfl, hw⟩
  have hw := hw.symm
  subst hw
  go_wp2_with fail
  refine (cover_any w9 HZ9.out).mono ?_
  rintro e w' ⟨rfl, hw⟩
  have hw := hw.symm
  subst hw
  go_wp2_with fail
  refine (ccame_any w9 HX9.out).mono ?_
  rintro e w' ⟨rfl, hw⟩
  have hw := hw.symm
  subst hw
  go_wp2_with fail
  refine (ccame_any w9 HZ9.out).mono ?_
  rintro e w' ⟨rfl, hw⟩
  have hw := hw.symm
  subst hw
  go_wp2_with fail
  refine (awake12_any _).mono ?_
  rintro e w10 ⟨rfl, hb⟩
  have HB10 : Hid (Below w.heap.size w w10) := HB9.out.trans (hb.mono HB9.out.size)
  clear hb
  go_wp2
  go_ret
  exact ⟨rfl, HB10.out⟩

theorem walk (a : Option Addr) (len cap : Nat) (T Y : Nat → Int) (p q : Int) (w : World) (w0 : IsArr w a len cap T Y) (w1 : (Lit.int .u64 p).wf = true) (w2 : (Lit.int .u64 q).wf = true) :
    Calls Try.prog 4 #[.slice a len cap, .int .u64 p, .int .u64 q] w fun e w' => e = .returned (.bool true) ∧ Below w.heap.size w w' := by
  by_cases h : 300 < len ∨ (256 < len ∨ ¬ Rises len T) ∨ q < p
  · exact awakes a len cap T Y p q w w0 h
  · exact yes a len cap T Y p q w w0 (Nat.le_of_not_lt (fun e => h (.inr (.inl (.inl e))))) (Classical.byContradiction fun e => h (.inr (.inl (.inr e)))) (Int.not_lt.1 (fun e => h (.inr (.inr e))))
end consoleAtOnce
end Go.Proofs.Ytbhmpfjmhjdcaaa
