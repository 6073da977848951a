/- Layer 15: whether parts fit, and what memory holds behind them. -/
import Derived.Test.YtcigceaadkjenaaDoorImgRd
import Derived.Test.YtcigceaadkjenaaDoorImgPrint
import Derived.Test.YtcigceaadkjenaaDoorRamMem
import Derived.Test.YtcigceaadkjenaaDoorBars
namespace Go.Proofs.YtcigceaadkjenaaDoor
open Go.RowKit
set_option linter.unusedVariables false
set_option linter.unusedSimpArgs false
set_option maxRecDepth 100000

def fitB (K : Nat) (p : Prt) : Bool := decide (p.2.length = 0) || hasB K p.1 p.2.length
def chkZ (K : Nat) (ps : List Prt) : Int := if ps.all (fitB K) = true then 0 else 6
def layP (b : Nat → Int) (p : Prt) : Nat → Int := bput b (p.1 - 2147483648).toNat p.2.length (fun i => p.2.getD i 0)
def layB (b : Nat → Int) (ps : List Prt) : Nat → Int := ps.foldl layP b
theorem layB_take (b : Nat → Int) (ps : List Prt) (k : Nat) (p : Prt) (h : ps[k]? = some p) : layB b (ps.take (k + 1)) = layP (layB b (ps.take k)) p := by
  unfold layB
  rw [List.take_add_one, h, List.foldl_append]
  rfl
theorem layP_nil (b : Nat → Int) (x : Int) : layP b (x, []) = b := bput_none _ _ _
theorem chk_no {K : Nat} {ps : List Prt} {p : Prt} (h : p ∈ ps) (hf : fitB K p = false) : chkZ K ps = 6 := by
  unfold chkZ
  rw [if_neg]
  intro h2
  have := List.all_eq_true.1 h2 p h
  rw [hf] at this; cases this
theorem chk_yes {K : Nat} {ps : List Prt} (h : ∀ p ∈ ps, fitB K p = true) : chkZ K ps = 0 := by
  unfold chkZ
  rw [if_pos (List.all_eq_true.2 h)]
theorem chk_cases (K : Nat) (ps : List Prt) : (chkZ K ps = 0 ∧ ∀ p ∈ ps, fitB K p = true) ∨ chkZ K ps = 6 := by
  by_cases h : ∀ p ∈ ps, fitB K p = true
  · exact .inl ⟨chk_yes h, h⟩
  · right
    unfold chkZ
    rw [if_neg (fun h2 => h (List.all_eq_true.1 h2))]

set_option maxHeartbeats 1000000 in
theorem fits_any (K : Nat) (x : Int) (a : Option Addr) (n c : Nat) (w : World) (hK : K ≤ 1024) (x0 : 0 ≤ x) (x1 : x < 4294967296) (hn : n ≤ maxLen) :
    Calls Tryd.prog 28 #[.agg #[.int .u32 x, .slice a n c], .int .i64 (64 * (K : Int))] w fun e w' => e = .returned (.bool (decide (n = 0) || hasB K x n)) ∧ Below w.heap.size w w' := by
  unfold maxLen at hn
  obtain ⟨S, hS⟩ : ∃ S : Int, 64 * (K : Int) = S := ⟨_, rfl⟩
  have hS0 : 0 ≤ S ∧ S ≤ 65536 := by omega
  have HE : Hid (∀ b : Bool, (b = true ↔ (n = 0 ∨ (1 ≤ (n : Int) ∧ 2147483648 ≤ x ∧ (n : Int) ≤ S - (x - 2147483648)))) → (decide (n = 0) || hasB K x n) = b) := fun b hb => by
    rw [← hS] at hb
    unfold hasB
    rw [← Bool.decide_or]
    cases b
    · exact decide_eq_false (fun h => by have := hb.2 h; cases this)
    · exact decide_eq_true (hb.1 rfl)
  rw [hS]
  clear hS
  go_enter Tryd.func28, Tryd.ntmps28
  by_cases h0 : n = 0
  · subst h0
    rw [HE.out true ⟨fun _ => .inl rfl, fun _ => rfl⟩]
    go_wp2
    go_ret
    exact ⟨rfl, (Below.refl _ _).alloc (Nat.le_refl _) _⟩
  · have hn0 : ((n : Int) == 0) = false := by rw [beq_eq_false_iff_ne]; omega
    by_cases hb : x < 2147483648
    · rw [HE.out false ⟨fun h => (by cases h), fun h => by omega⟩]
      go_wp2
      go_ret
      exact ⟨rfl, (Below.refl _ _).alloc (Nat.le_refl _) _⟩
    · have hsub : (x - 2147483648) % 4294967296 = x - 2147483648 := Int.emod_eq_of_lt (by omega) (by omega)
      obtain ⟨f, hf⟩ : ∃ f : Int, x - 2147483648 = f := ⟨_, rfl⟩
      have hf0 : 0 ≤ f ∧ f < 4294967296 := by omega
      by_cases hfs : f < S
      · by_cases hle : (n : Int) ≤ S - f
        · rw [HE.out true ⟨fun _ => .inr ⟨by omega, by omega, by omega⟩, fun _ => rfl⟩]
          go_wp2
          go_ret
          exact ⟨rfl, (Below.refl _ _).alloc (Nat.le_refl _) _⟩
        · rw [HE.out false ⟨fun h => (by cases h), fun h => by omega⟩]
          go_wp2
          go_ret
          exact ⟨rfl, (Below.refl _ _).alloc (Nat.le_refl _) _⟩
      · rw [HE.out false ⟨fun h => (by cases h), fun h => by omega⟩]
        go_wp2
        go_ret
        exact ⟨rfl, (Below.refl _ _).alloc (Nat.le_refl _) _⟩

set_option maxHeartbeats 1000000 in
/-- The landed Check, of parts that are not too long. -/
theorem check15_any (K : Nat) (v : Value) (ps : List Prt) (w : World) (h : RdPs w v ps) (hf : Fine ps) (hK : K ≤ 1024) (hn : ps.length ≤ 1000000) (hm : ∀ p ∈ ps, p.2.length ≤ maxLen) (hl : longL ps = false) :
    Calls Tryd.prog 13 #[v, .int .i64 (64 * (K : Int))] w fun e w' => e = .returned (.int .i64 (chkZ K ps)) ∧ Below w.heap.size w w' := by
  obtain ⟨S, hS⟩ : ∃ S : Int, 64 * (K : Int) = S := ⟨_, rfl⟩
  have HFT : Hid (∀ (V : World) (p : Prt) (a : Option Addr) (c : Nat), p ∈ ps → Calls Tryd.prog 28 #[.agg #[.int .u32 p.1, .slice a p.2.length c], .int .i64 S] V fun e w' => e = .returned (.bool (fitB K p)) ∧ Below V.heap.size V w') := fun V p a c hp => by
    rw [← hS]
    exact fits_any K p.1 a p.2.length c V hK (hf p hp).1 (hf p hp).2.1 (hm p hp)
  have HLO : Hid (Calls Tryd.prog 27 #[v] w fun e w' => e = .returned (.bool false) ∧ Below w.heap.size w w') := by
    have := long_any v ps w h (by unfold maxLen; omega)
    rwa [hl] at this
  have HD := Lib.hid h
  obtain ⟨a, c, rfl, h⟩ := h
  rw [hS]
  clear hS hf hm hl
  go_enter Tryd.func13, Tryd.ntmps13
  go_wp2_with (go_at_call 27; refine HLO.out.mono ?_; rintro e w0 ⟨rfl, hb0⟩)
  go_loopw [11] (fun i wr => ∃ k : Nat, k ≤ ps.length ∧ i = .int .i64 (k : Int) ∧ Hid (∀ p ∈ ps.take k, fitB K p = true) ∧ Hid (Below w.heap.size w wr)) (fun i _ => ps.length - (intOf i).toNat)
  case atStart => exact ⟨0, Nat.zero_le _, rfl, fun p hp => by simp at hp, hb0⟩
  case round =>
    obtain ⟨k, hk, rfl, HS, HB⟩ := hrel
    by_cases hlt : k < ps.length
    · rcases h with h | ⟨b, o, rfl, hi⟩
      · subst h; simp at hlt
      · obtain ⟨p, hp⟩ : ∃ p, ps[k]? = some p := ⟨_, List.getElem?_eq_getElem hlt⟩
        have hpm := List.mem_of_getElem? hp
        obtain ⟨c0, a1, cp, c1, _⟩ := (hi k p hp).on (HB.out.mono (Nat.le_refl _))
        have HP := Lib.hid hp
        have HPM := Lib.hid hpm
        have HI := Lib.hid hi
        have HF1 : Hid (∀ V : World, _) := fun V => HFT.out V p a1 cp hpm
        cases hfit : fitB K p
        · have HZ := Lib.hid (chk_no hpm hfit)
          rw [hfit] at HF1
          obtain ⟨p1, p2⟩ := p
          clear hi hp hpm
          go_wp2_with (go_at_call 28; refine (HF1.out _).mono ?_; rintro e w1 ⟨rfl, hb1⟩; have HB1 := Lib.hid hb1; clear hb1)
          go_ret
          rw [HZ.out]
          exact ⟨rfl, (HB.out.alloc HB.out.size _).trans (HB1.out.mono (by have := HB.out.size; simp; omega))⟩
        · rw [hfit] at HF1
          have HS2 : Hid (∀ q ∈ ps.take (k + 1), fitB K q = true) := fun q hq => by
            rw [List.take_add_one, HP.out] at hq
            rcases List.mem_append.1 hq with h | h
            · exact HS.out q h
            · simp at h; subst h; exact hfit
          obtain ⟨p1, p2⟩ := p
          clear hi hp hpm
          go_wp2_with (go_at_call 28; refine (HF1.out _).mono ?_; rintro e w1 ⟨rfl, hb1⟩; have HB1 := Lib.hid hb1; clear hb1)
          go_roundw
          case rel => exact ⟨k + 1, by omega, by go_num, HS2, (HB.out.alloc HB.out.size _).trans (HB1.out.mono (by have := HB.out.size; simp; omega))⟩
          case measure => simp [intOf]; omega
    · obtain rfl : k = ps.length := by omega
      rw [List.take_length] at HS
      have HZ := Lib.hid (chk_yes HS.out)
      go_wp2
      go_ret
      rw [HZ.out]
      exact ⟨rfl, HB.out⟩
end Go.Proofs.YtcigceaadkjenaaDoor
