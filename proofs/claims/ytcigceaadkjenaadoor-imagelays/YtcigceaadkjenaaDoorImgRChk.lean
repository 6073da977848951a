/- Layer 15: the document's Check. -/
import Derived.Test.YtcigceaadkjenaaDoorImgLayM
import Derived.Test.YtcigceaadkjenaaDoorRamRef
import Derived.Test.YtcigceaadkjenaaDoorImgRLong
namespace Go.Proofs.YtcigceaadkjenaaDoor
open Go.RowKit
set_option linter.unusedVariables false
set_option linter.unusedSimpArgs false
set_option maxRecDepth 100000

set_option maxHeartbeats 4000000 in
theorem rcheck15_any (K : Nat) (v : Value) (ps : List Prt) (B : Option Addr) (cap : Nat) (w : World) (h : RdPs w v ps) (hf : Fine ps) (hK : K ≤ 1024) (hn : ps.length ≤ 1000000) (hm : ∀ p ∈ ps, p.2.length ≤ maxLen) (hl : longL ps = false) :
    Calls Tryd.prog 11 #[v, .slice B (64 * K) cap] w fun e w' => e = .returned (.int .i64 (chkZ K ps)) ∧ Q w w' := by
  have HHA : Hid (∀ (V : World) (p : Prt), p ∈ ps → Calls Tryd.prog 26 #[.slice B (64 * K) cap, .int .u32 p.1, .int .i64 p.2.length] V fun e w' => e = .returned (.bool (hasB K p.1 p.2.length)) ∧ w' = V) := fun V p hp =>
    rhas10_any K B cap p.1 p.2.length V hK (hf p hp).1 (hf p hp).2.1
  have HLO : Hid (Calls Tryd.prog 25 #[v] w fun e w' => e = .returned (.bool false) ∧ w' = w) := by
    have := rlong_any v ps w h (by unfold maxLen; omega) hm
    rwa [hl] at this
  have HM := Lib.hid hm
  obtain ⟨a, c, rfl, h⟩ := h
  obtain ⟨L, hL⟩ : ∃ L, 64 * K = L := ⟨_, rfl⟩
  rw [hL] at HHA ⊢
  clear hL hf hm hl
  go_enter Tryd.func11, Tryd.ntmps11
  go_wp2_with (go_at_call 25; refine HLO.out.mono ?_; rintro e w0 ⟨rfl, hw⟩; have hw := hw.symm; subst hw)
  go_loopw [5] (fun i wr => ∃ k : Nat, k ≤ ps.length ∧ i = .int .i64 (k : Int) ∧ Hid (∀ p ∈ ps.take k, fitB K p = true) ∧ Q w wr) (fun i _ => ps.length - (intOf i).toNat)
  case atStart => exact ⟨0, Nat.zero_le _, rfl, fun p hp => by simp at hp, Q.refl _⟩
  case round =>
    obtain ⟨k, hk, rfl, HS, hq⟩ := hrel
    by_cases hlt : k < ps.length
    · rcases h with h | ⟨b, o, rfl, hi⟩
      · subst h; simp at hlt
      · obtain ⟨p, hp⟩ : ∃ p, ps[k]? = some p := ⟨_, List.getElem?_eq_getElem hlt⟩
        have hpm := List.mem_of_getElem? hp
        obtain ⟨c0, a1, cp, c1, _⟩ := (hi k p hp).on (hq.below _)
        have hpl := HM.out p hpm
        have HP := Lib.hid hp
        have HPM := Lib.hid hpm
        have HI := Lib.hid hi
        have hlt' : (k : Int) < (ps.length : Int) := by omega
        have hk0 : (0 : Int) ≤ (k : Int) := by omega
        have HF1 : Hid (∀ V : World, _) := fun V => HHA.out V p hpm
        have HNO : Hid (fitB K p = false → chkZ K ps = 6) := fun h => chk_no hpm h
        have HS2 : Hid (fitB K p = true → ∀ q ∈ ps.take (k + 1), fitB K q = true) := fun h0 q hq => by
          rw [List.take_add_one, HP.out] at hq
          rcases List.mem_append.1 hq with h | h
          · exact HS.out q h
          · simp at h; subst h; exact h0
        clear hi hp hpm
        obtain ⟨p1, p2⟩ := p
        replace hpl : p2.length ≤ 9223372036854775807 := hpl
        by_cases h0 : p2.length = 0
        · have hd : decide (0 < p2.length) = false := decide_eq_false (by omega)
          have HT := HS2.out (by unfold fitB; simp [h0])
          go_wp2_with fail
          go_quiet (fail)
          go_wp2
          go_roundw
          case rel => exact ⟨k + 1, by omega, by go_num, HT, hq.drewN _⟩
          case measure => simp [intOf]; omega
        · have hd : decide (0 < p2.length) = true := decide_eq_true (by omega)
          have e1 : fitB K (p1, p2) = hasB K p1 p2.length := by unfold fitB; simp [h0]
          rw [e1] at HNO HS2
          cases hh : hasB K p1 p2.length
          · replace HF1 : Hid (∀ V : World, Calls Tryd.prog 26 #[.slice B L cap, .int .u32 p1, .int .i64 p2.length] V fun e w' => e = .returned (.bool false) ∧ w' = V) := fun V => by
              have := HF1.out V
              rwa [show hasB K (p1, p2).1 (p1, p2).2.length = false from hh] at this
            have HZ := HNO.out hh
            clear HNO HS2
            go_wp2_with fail
            go_quiet ((go_at_call 26; exact Calls.quiet_of_same (HF1.out _)))
            go_wp2
            go_ret
            rw [HZ]
            exact ⟨rfl, hq.drewN _⟩
          · replace HF1 : Hid (∀ V : World, Calls Tryd.prog 26 #[.slice B L cap, .int .u32 p1, .int .i64 p2.length] V fun e w' => e = .returned (.bool true) ∧ w' = V) := fun V => by
              have := HF1.out V
              rwa [show hasB K (p1, p2).1 (p1, p2).2.length = true from hh] at this
            have HT := HS2.out hh
            clear HNO HS2
            go_wp2_with fail
            go_quiet ((go_at_call 26; exact Calls.quiet_of_same (HF1.out _)))
            go_wp2
            go_roundw
            case rel => exact ⟨k + 1, by omega, by go_num, HT, hq.drewN _⟩
            case measure => simp [intOf]; omega
    · obtain rfl : k = ps.length := by omega
      rw [List.take_length] at HS
      have HZ := Lib.hid (chk_yes HS.out)
      go_wp2
      go_ret
      rw [HZ.out]
      exact ⟨rfl, hq⟩
end Go.Proofs.YtcigceaadkjenaaDoor
