/- Layer 4: walk of EncodeLists. -/
import Derived.Test.YtlceglloikamnaaDoorEncBytes
namespace Go.Proofs.YtlceglloikamnaaDoor
open Go.RowKit
set_option linter.unusedVariables false

theorem first_bad (P : Nat → Bool) : ∀ n, (∀ i, i < n → P i = true) ∨ ∃ p, p < n ∧ (∀ i, i < p → P i = true) ∧ P p = false
  | 0 => .inl fun i h => absurd h (by omega)
  | n + 1 => by
    rcases first_bad P n with h | ⟨p, hp, h1, h2⟩
    · cases hn : P n
      · exact .inr ⟨n, by omega, h, hn⟩
      · refine .inl fun i hi => ?_
        by_cases c : i < n
        · exact h i c
        · obtain rfl : i = n := by omega
          exact hn
    · exact .inr ⟨p, by omega, h1, h2⟩

namespace encodeLists
set_option maxHeartbeats 2000000 in
theorem walk_big (a : Option Addr) (len cap : Nat) (w : World) (hm : len ≤ maxLen) (hbig : 1000 < len) (tf : FormTab w) (tm : EncTab w) :
    Calls Tryd.prog 5 #[.slice a len cap] w fun e w' => e = .returned (.bool true) ∧ Below w.heap.size w w' := by
  unfold maxLen at hm
  have HF : Hid (FormTab w) := tf
  have HM : Hid (EncTab w) := tm
  clear tf tm
  go_enter Tryd.func5, Tryd.ntmps5
  go_wp2_with fail
  refine (eawake_any _ HF.out HM.out).mono ?_
  rintro e w1 ⟨rfl, hb⟩
  go_wp2
  go_ret
  exact ⟨rfl, hb⟩

set_option maxHeartbeats 4000000 in
theorem walk_no (F : Nat → Nat → Int) (a : Option Addr) (len cap p : Nat) (w : World) (hn : len ≤ 1000) (hp : p < len) (hc : IsIns w a len F) (hok : ∀ i, i < p → okF F i = true) (hbad : okF F p = false) (tf : FormTab w) (tm : EncTab w) :
    Calls Tryd.prog 5 #[.slice a len cap] w fun e w' => e = .returned (.bool true) ∧ Below w.heap.size w w' := by
  have HC : Hid (IsIns w a len F) := hc
  have HX : Hid (∀ i, i < p → okF F i = true) := hok
  have HY : Hid (okF F p = false) := hbad
  have HF : Hid (FormTab w) := tf
  have HM : Hid (EncTab w) := tm
  clear tf tm hc hok hbad
  go_enter Tryd.func5, Tryd.ntmps5
  go_wp2_with fail
  refine (eall_no F a len cap p _ hn hp HC.out HX.out HY.out HF.out HM.out).mono ?_
  rintro e w1 ⟨rfl, hb⟩
  have HB1 : Hid (Below w.heap.size w w1) := hb
  clear hb
  go_wp2_with fail
  refine (ebytes_no F a len cap p _ hn hp (HC.out.on HB1.out) HX.out HY.out (FormTab.below HF.out HB1.out) (EncTab.below HM.out HB1.out)).mono ?_
  rintro e w2 ⟨rfl, hb⟩
  have hb2 : Below w.heap.size w w2 := HB1.out.trans (hb.mono HB1.out.size)
  clear hb
  go_wp2
  go_loopw [8] (fun i wr => ∃ k : Nat, k ≤ p ∧ i = .int .i64 k ∧ Below w.heap.size w wr) (fun i _ => p - (intOf i).toNat)
  case atStart => exact ⟨0, Nat.zero_le _, rfl, by first | exact hb2 | exact hb2.alloc hb2.size _⟩
  case round =>
    clear hb2
    obtain ⟨k, hk, rfl, hb⟩ := hrel
    have hkl : k < len := by omega
    have HB : Hid (Below w.heap.size w wr) := hb
    obtain ⟨b, off, ha, hs, j0, j1⟩ := (IsIns.on HC.out hb).at hkl
    clear hb
    by_cases hlt : k < p
    · have HOK : Hid (okB (F k 0) (F k 1) (F k 2) (F k 3) (F k 4) (F k 5) = true) := HX.out k hlt
      generalize F k 0 = f0 at *
      generalize F k 1 = f1 at *
      generalize F k 2 = f2 at *
      generalize F k 3 = f3 at *
      generalize F k 4 = f4 at *
      generalize F k 5 = f5 at *
      subst ha
      obtain ⟨c0, c1, c2, c3, c4, c5⟩ := hs
      go_wp2_with fail
      refine (renc_t f0 f1 f2 f3 f4 f5 _ j0 j1 HOK.out).mono ?_
      rintro e w3 ⟨rfl, kb⟩
      have hb3 : Below w.heap.size w w3 := HB.out.trans (kb.mono HB.out.size)
      clear kb c0 c1 c2 c3 c4 c5
      go_wp2
      go_roundw
      case rel => exact ⟨k + 1, by omega, by go_num, hb3⟩
      case measure => simp [intOf]; omega
    · obtain rfl : k = p := by omega
      have HOK : Hid (okB (F k 0) (F k 1) (F k 2) (F k 3) (F k 4) (F k 5) = false) := HY.out
      generalize F k 0 = f0 at *
      generalize F k 1 = f1 at *
      generalize F k 2 = f2 at *
      generalize F k 3 = f3 at *
      generalize F k 4 = f4 at *
      generalize F k 5 = f5 at *
      subst ha
      obtain ⟨c0, c1, c2, c3, c4, c5⟩ := hs
      go_wp2_with fail
      refine (renc_f f0 f1 f2 f3 f4 f5 _ j0 j1 HOK.out).mono ?_
      rintro e w3 ⟨rfl, kb⟩
      have HB3 : Hid (Below w.heap.size w w3) := HB.out.trans (kb.mono HB.out.size)
      clear kb c0 c1 c2 c3 c4 c5
      go_wp2_with fail
      refine (eawake_any _ (FormTab.below HF.out HB3.out) (EncTab.below HM.out HB3.out)).mono ?_
      rintro e w4 ⟨rfl, hb4⟩
      go_wp2
      go_ret
      exact ⟨rfl, HB3.out.trans (hb4.mono HB3.out.size)⟩

set_option maxHeartbeats 8000000 in
theorem walk_ok (F : Nat → Nat → Int) (a : Option Addr) (len cap : Nat) (w : World) (hn : len ≤ 1000) (hc : IsIns w a len F) (hok : ∀ i, i < len → okF F i = true) (tf : FormTab w) (tm : EncTab w) :
    Calls Tryd.prog 5 #[.slice a len cap] w fun e w' => e = .returned (.bool true) ∧ Below w.heap.size w w' := by
  have HC : Hid (IsIns w a len F) := hc
  have HX : Hid (∀ i, i < len → okF F i = true) := hok
  have HF : Hid (FormTab w) := tf
  have HM : Hid (EncTab w) := tm
  clear tf tm hc hok
  obtain ⟨i0, hi, hz0, hz1, hz2⟩ := info_parts Tryd.info5
  go_enter Tryd.func5, Tryd.ntmps5
  go_wp2_with fail
  refine (eall_ok F a len cap _ hn HC.out HX.out HF.out HM.out).mono ?_
  rintro e w1 ⟨v1, rfl, hown1, hb⟩
  have HB1 : Hid (Below w.heap.size w w1) := hb
  clear hb
  go_wp2_with fail
  refine (ebytes_ok F a len cap _ hn (HC.out.on HB1.out) HX.out (FormTab.below HF.out HB1.out) (EncTab.below HM.out HB1.out)).mono ?_
  rintro e w2 ⟨v2, rfl, hown2, hb⟩
  have HB2 : Hid (Below w.heap.size w w2) := HB1.out.trans (hb.mono HB1.out.size)
  have HO1 : Hid (w2.ownsRow w.heap.size 22 1 v1 len (wordsTo F len)) := own_on hown1 hb
  have HO2 : Hid (w2.ownsRow w1.heap.size 5 1 v2 (4 * len) ((bsTo F len).map (Value.int .u8))) := hown2
  obtain ⟨p1, q1, hv1⟩ : ∃ p c, v1 = .slice p len c := by
    rcases hown1.2 with ⟨rfl, rfl⟩ | ⟨g, cap, cur, rfl, _⟩ <;> exact ⟨_, _, rfl⟩
  have HW : Hid (∀ i, i < len → ∃ g, p1 = some ⟨g, 0, none⟩ ∧ w2.cell? ⟨g, i, none⟩ = some (.int .u32 (wordF F i))) := fun i hi => by
    obtain ⟨g, c, hg⟩ := owned_some HO1.out (by omega)
    rw [hv1] at hg
    simp at hg
    refine ⟨g, hg.1, ?_⟩
    have := HO1.out
    rw [hv1, hg.1] at this
    rw [this.cellAt i (by omega)]
    exact wordsTo_at F len i hi
  clear hb hown1 hown2 HO1
  subst hv1
  go_wp2
  go_loopw [8] (fun i wr => ∃ k : Nat, k ≤ len ∧ i = .int .i64 k ∧ wr.ownsRow w2.heap.size 5 1 (.slice (some ⟨w2.heap.size, 0, none⟩) 0 0) 0 [] ∧ Below w2.heap.size w2 wr) (fun i _ => len - (intOf i).toNat)
  case atStart => exact ⟨0, Nat.zero_le _, rfl, World.ownsRow_lit w2 #[] 0 (Nat.le_refl _) (by decide) rfl, (Below.refl _ _).alloc (Nat.le_refl _) _⟩
  case round =>
    obtain ⟨k, hk, rfl, hown, hb⟩ := hrel
    have HB : Hid (Below w2.heap.size w2 wr) := hb
    have HOW : Hid (wr.ownsRow w2.heap.size 5 1 (.slice (some ⟨w2.heap.size, 0, none⟩) 0 0) 0 []) := hown
    clear hown
    by_cases hlt : k < len
    · obtain ⟨b, off, ha, hs, j0, j1⟩ := (IsIns.on (IsIns.on HC.out HB2.out) hb).at hlt
      clear hb
      have HOK : Hid (okB (F k 0) (F k 1) (F k 2) (F k 3) (F k 4) (F k 5) = true) := HX.out k hlt
      generalize F k 0 = f0 at *
      generalize F k 1 = f1 at *
      generalize F k 2 = f2 at *
      generalize F k 3 = f3 at *
      generalize F k 4 = f4 at *
      generalize F k 5 = f5 at *
      subst ha
      obtain ⟨c0, c1, c2, c3, c4, c5⟩ := hs
      go_wp2_with fail
      refine (renc_t f0 f1 f2 f3 f4 f5 _ j0 j1 HOK.out).mono ?_
      rintro e w3 ⟨rfl, kb⟩
      have hb3 : Below w2.heap.size w2 w3 := HB.out.trans (kb.mono HB.out.size)
      have ho3 := own_on HOW.out kb
      clear kb c0 c1 c2 c3 c4 c5
      go_wp2
      go_roundw
      case rel => exact ⟨k + 1, by omega, by go_num, ho3, hb3⟩
      case measure => simp [intOf]; omega
    · obtain rfl : k = len := by omega
      clear hb
      go_wp2
      go_loopw [7, 11] (fun v i wq => ∃ j : Nat, j ≤ k ∧ i = .int .i64 j ∧ wq.ownsRow w2.heap.size 5 1 v (4 * j) ((bsTo F j).map (Value.int .u8)) ∧ Below w2.heap.size w2 wq) (fun _ i _ => k - (intOf i).toNat)
      case atStart => exact ⟨0, Nat.zero_le _, rfl, HOW.out, HB.out⟩
      case round =>
        obtain ⟨j, hj, rfl, hown, hb⟩ := hrel
        have HB' : Hid (Below w2.heap.size w2 wr) := hb
        have HOW' : Hid (wr.ownsRow w2.heap.size 5 1 _ (4 * j) ((bsTo F j).map (Value.int .u8))) := hown
        by_cases hlt' : j < k
        · obtain ⟨b, off, ha, hs, j0, j1⟩ := (IsIns.on (IsIns.on HC.out HB2.out) hb).at hlt'
          obtain ⟨g, hp1, hcell0⟩ := HW.out j hlt'
          have hcell1 := ecell_on hb hcell0
          have HWD : Hid (bsTo F (j + 1) = bsTo F j ++ byteL (wordF F j)) := rfl
          have hwd : wordF F j = wordOf (F j 0) (F j 1) (F j 2) (F j 3) (F j 4) (F j 5) := rfl
          have HOK : Hid (okB (F j 0) (F j 1) (F j 2) (F j 3) (F j 4) (F j 5) = true) := HX.out j hlt'
          obtain ⟨x0, x1⟩ := word_bd j0 j1 HOK.out
          rw [hwd] at hcell1 HWD
          have HCE : Hid (wr.cell? ⟨g, j, none⟩ = some (.int .u32 (wordOf (F j 0) (F j 1) (F j 2) (F j 3) (F j 4) (F j 5)))) := hcell1
          clear hwd hcell0 hcell1 hown hb
          generalize F j 0 = f0 at *
          generalize F j 1 = f1 at *
          generalize F j 2 = f2 at *
          generalize F j 3 = f3 at *
          generalize F j 4 = f4 at *
          generalize F j 5 = f5 at *
          subst ha
          subst hp1
          obtain ⟨c0, c1, c2, c3, c4, c5⟩ := hs
          go_wp2_with fail
          refine (renc_t f0 f1 f2 f3 f4 f5 _ j0 j1 HOK.out).mono ?_
          generalize wordOf f0 f1 f2 f3 f4 f5 = wd at *
          rintro e w3 ⟨rfl, kb⟩
          have hcell := ecell_on kb HCE.out
          have HB3 : Hid (Below w2.heap.size w2 w3) := HB'.out.trans (kb.mono HB'.out.size)
          have HO3 : Hid (w3.ownsRow w2.heap.size 5 1 _ (4 * j) ((bsTo F j).map (Value.int .u8))) := own_on HOW'.out kb
          clear kb c0 c1 c2 c3 c4 c5
          go_wp2_with fail
          refine (rbytes_any wd 4 _ x0 x1 (by omega)).mono ?_
          rw [bytesTo_4]
          rintro e w4 ⟨v4, rfl, hown4, hb4⟩
          obtain ⟨g4, q4, rfl⟩ := owned_some hown4 (by decide)
          have hq4 : 4 ≤ q4 ∧ q4 ≤ maxLen := by
            rcases hown4.2 with ⟨h, _⟩ | ⟨g, cap, cur, h, _, _, h1, h2, _⟩
            · cases h
            · cases h; exact ⟨h1, h2⟩
          have k0 := hown4.cellAt 0 (by decide)
          have k1 := hown4.cellAt 1 (by decide)
          have k2 := hown4.cellAt 2 (by decide)
          have k3 := hown4.cellAt 3 (by decide)
          have HO4 : w4.ownsRow w2.heap.size 5 1 _ (4 * j) ((bsTo F j).map (Value.int .u8)) := own_on HO3.out hb4
          have HB4 : Below w2.heap.size w2 w4 := HB3.out.trans (hb4.mono HB3.out.size)
          obtain ⟨k4, hk4⟩ : ∃ k4 : Nat, k4 = 4 * j := ⟨_, rfl⟩
          rw [← hk4] at HO4
          have hkb : k4 ≤ 4000 := by omega
          have HK4 : Hid (k4 = 4 * j) := hk4
          clear hown4 hb4 hk4
          go_wp2_with (at_builtin; refine wpList_append_own _ rfl _ _ 43 rfl w2.heap.size 5 i0 _ 1 1 Tryd.underlying43 hi hz0 hz1 hz2 rfl (by decide) _ _ _ rfl HO4 ⟨g4, 0, none⟩ 4 q4 ((byteL wd).map (Value.int .u8)) rfl rfl ?c1 ?c2 ?c3 ?c4 ?c5 ?_)
          case c1 =>
            intro j u hj
            match j, hj with
            | 0, hj => rw [← hj]; exact k0
            | 1, hj => rw [← hj]; exact k1
            | 2, hj => rw [← hj]; exact k2
            | 3, hj => rw [← hj]; exact k3
          case c2 =>
            intro u hu
            simp [byteL] at hu
            rcases hu with rfl | rfl | rfl | rfl <;> rfl
          case c3 => unfold maxLen; omega
          case c4 => omega
          case c5 => exact HB4.size
          intro v' w5 hown' hgrow _
          have hb' : Below w2.heap.size w2 w5 := HB4.grown hgrow HB4.size (fun j hj => (HO4.lt j hj).1)
          have ho : w5.ownsRow w2.heap.size 5 1 v' (4 * (j + 1)) ((bsTo F (j + 1)).map (Value.int .u8)) := by
            rw [HWD.out, List.map_append, show 4 * (j + 1) = k4 + 4 from by have := HK4.out; omega]; exact hown'
          clear hown' hgrow HO4 hcell k0 k1 k2 k3
          go_wp2
          go_roundw
          case rel => exact ⟨j + 1, by omega, by go_num, ho, hb'⟩
          case measure => simp [intOf]; omega
        · obtain rfl : j = k := by omega
          clear hown hb
          go_wp2_with fail
          refine (same_own (bsTo F j) (4 * j) _ _ v2 _ _ (by unfold maxLen; omega) (own_on HO2.out HB'.out) HOW'.out).mono ?_
          rintro e w5 ⟨rfl, hq⟩
          have HB5 : Hid (Below w.heap.size w w5) := (HB2.out.trans (HB'.out.mono HB2.out.size)).trans (hq.below _)
          clear hq
          go_wp2_with fail
          refine (eawake_any _ (FormTab.below HF.out HB5.out) (EncTab.below HM.out HB5.out)).mono ?_
          rintro e w6 ⟨rfl, hb6⟩
          go_wp2
          go_ret
          exact ⟨rfl, HB5.out.trans (hb6.mono HB5.out.size)⟩

theorem walk (a : Option Addr) (len cap : Nat) (F : Nat → Nat → Int) (w : World) (hc : IsIns w a len F) (tf : FormTab w) (tm : EncTab w) :
    Calls Tryd.prog 5 #[.slice a len cap] w fun e w' => e = .returned (.bool true) ∧ Below w.heap.size w w' := by
  by_cases hbig : 1000 < len
  · exact walk_big a len cap w hc.1 hbig tf tm
  · rcases first_bad (okF F) len with h | ⟨p, hp, h1, h2⟩
    · exact walk_ok F a len cap w (by omega) hc h tf tm
    · exact walk_no F a len cap p w (by omega) hp hc h1 h2 tf tm
end encodeLists
end Go.Proofs.YtlceglloikamnaaDoor
