/- Layer 11: the walk of FifoPlays. (By gen-fifoplays.py.) -/
import Derived.Test.YtidjabmimcajaaaFifoClones
namespace Go.Proofs.Ytidjabmimcajaaa
open Go.RowKit
set_option linter.unusedVariables false

namespace fifoPlays
/-- Where the two rows stand. -/
def Both (n0 B : Nat) (w : World) (v : Value) (W : World) : Prop := ∃ n f b o cap, v = .slice (some ⟨b, o, none⟩) n cap ∧ IsFifo W B n f ∧ IsBs B W b o n cap f ∧ Below n0 w W

set_option maxRecDepth 100000 in
set_option maxHeartbeats 3200000 in
theorem walk (a : Option Addr) (len cap : Nat) (z : List Int) (w : World) (w0 : IsRow .u16 w a len cap z) :
    Calls Try.prog 3 #[.slice a len cap] w fun e w' => e = .returned (.bool true) ∧ Below w.heap.size w w' := by
  have hl : len ≤ maxLen := by
    rcases w0 with ⟨rfl, rfl, rfl, rfl⟩ | ⟨x, rfl, hl, hm, hz, hcell, hwz⟩
    · exact Nat.zero_le _
    · omega
  by_cases hlen : len ≤ 500
  · clear hl
    have HR : Hid (len = 0 ∨ ∃ xb xo, a = some ⟨xb, xo, none⟩ ∧ ∀ W : World, Below w.heap.size w W → ∀ k, k < len → W.cell? ⟨xb, xo + k, none⟩ = some (.int .u16 (z.getD k 0)) ∧ 0 ≤ z.getD k 0 ∧ z.getD k 0 < 65536) := by
      by_cases h0 : len = 0
      · exact .inl h0
      · rcases w0 with ⟨rfl, rfl, rfl, rfl⟩ | ⟨x, rfl, hl, hm, hz, hcell, hwz⟩
        · omega
        · obtain ⟨b, off, spot⟩ := x
          have hspot : spot = none := by simpa [Addr.add] using World.cell?_spot (hcell 0 (by omega))
          subst hspot
          refine .inr ⟨b, off, rfl, fun W hW k hk => ?_⟩
          have hc := hcell k (by omega)
          rw [add_plain] at hc
          have := range_u16 hwz k
          refine ⟨?_, ?_, ?_⟩
          · rw [hW.cell (World.block_lt_of_cell? w _ hc)]; exact hc
          · simp only [List.getD]; omega
          · simp only [List.getD]; omega
    clear w0
    go_enter Try.func3, Try.ntmps3
    go_wp2_with fail
    refine (fnew_row w).mono ?_
    rintro e v1 ⟨B, rfl, hB, hi, hb⟩
    have HI := Lib.hid hi
    have HB := Lib.hid hb
    have HBB := Lib.hid hB
    have HL : Hid (B < v1.heap.size) := (hi (fun _ => 0)).lt
    clear hi hb hB
    go_wp2_with fail
    go_loopw [4, 5] (fun v i wr => ∃ k : Nat, k ≤ len ∧ i = .int .i64 k ∧ Both w.heap.size B w v wr) (fun _ i _ => len - (intOf i).toNat)
    case atStart =>
      exact ⟨0, Nat.zero_le _, rfl, 0, fun _ => 0, v1.heap.size, 0, 0, rfl, (HI.out _).on ((Below.refl _ _).alloc (Nat.le_refl _) _), ⟨Nat.le_refl _, by have := HL.out; omega, fun i hi => absurd hi (Nat.not_lt_zero i)⟩, HB.out.alloc HB.out.size _⟩
    case round =>
      clear HI HB HL
      obtain ⟨k, hk, rfl, n, f, b, o, c, rfl, hi, hs, hb⟩ := hrel
      have HI := Lib.hid hi
      have HS := Lib.hid hs
      have HB := Lib.hid hb
      have hn := hi.le
      clear hi hb hs
      by_cases hlt : k < len
      · have HX0 : ∃ xb xo, a = some ⟨xb, xo, none⟩ ∧ Hid (∀ W : World, Below w.heap.size w W → W.cell? ⟨xb, xo + k, none⟩ = some (.int .u16 (z.getD k 0)) ∧ 0 ≤ z.getD k 0 ∧ z.getD k 0 < 65536) := by
          rcases HR.out with h | ⟨xb, xo, ha, h⟩
          · omega
          · exact ⟨xb, xo, ha, fun W hW => h W hW k hlt⟩
        obtain ⟨xb, xo, rfl, HX⟩ := HX0
        generalize z.getD k 0 = y at HX
        obtain ⟨hx, y0, y1⟩ := HX.out _ HB.out
        by_cases c1 : y < 256
        · by_cases c2 : n < 16
          · (
            go_wp2_with fail
            refine (rpush_yes B b o n c f y _ HI.out.lt HS.out (by omega)).mono ?_
            rintro e v2 ⟨g, c2, rfl, hs, hb⟩
            have HI2 := Lib.hid (HI.out.on hb)
            have HS2 := Lib.hid hs
            have HB2 : Hid (Below w.heap.size w v2) := HB.out.trans (hb.mono HB.out.size)
            have hx2 := (HX.out _ HB2.out).1
            clear hs hb hx
            go_wp2_with fail
            refine (fpush_yes B n f y _ HI2.out (by omega)).mono ?_
            rintro e v3 ⟨rfl, hi, hbar⟩
            have HI3 := Lib.hid hi
            have HS3 := Lib.hid (HS2.out.bar hbar)
            have HB3 : Hid (Below w.heap.size w v3) := HB2.out.trans (hbar.below HBB.out HB2.out.size)
            have hx3 := (HX.out _ HB3.out).1
            clear hi hbar hx2
            have h17 : n + 1 ≤ 16 := by omega
            go_wp2_with fail
            refine (flen_any B _ _ _ HI3.out).mono ?_
            rintro e w' ⟨rfl, hw⟩
            have hw := hw.symm
            subst hw
            go_wp2_with fail
            refine (fall_any B _ _ _ HI3.out).mono ?_
            rintro e v6 ⟨q, rfl, hown, hb⟩
            have HY := Lib.hid (isRowV_of_own hown)
            have HI6 := Lib.hid (HI3.out.on hb)
            have HS6 := Lib.hid (HS3.out.on hb)
            have HB6 : Hid (Below w.heap.size w v6) := HB3.out.trans (hb.mono HB3.out.size)
            clear hown hb
            go_wp2_with fail
            refine (same11 (by omega) HY.out ⟨_, _, rfl, .inr ⟨_, _, rfl, HS6.out.2.2⟩⟩).mono ?_
            rintro e v7 ⟨rfl, hq⟩
            have HI7 := Lib.hid (HI6.out.on (hq.below _))
            have HS7 := Lib.hid (HS6.out.on (hq.below _))
            have HB7 : Hid (Below w.heap.size w v7) := HB6.out.trans (hq.below _)
            clear hq
            go_wp2
            go_roundw
            case rel => exact ⟨k + 1, by omega, by go_num, _, _, _, _, _, rfl, HI7.out, HS7.out, HB7.out⟩
            case measure => simp [intOf]; omega
            )
          · (
            obtain rfl : n = 16 := by omega
            go_wp2_with fail
            refine (rpush_full b o c y _).mono ?_
            rintro e w' ⟨rfl, hw⟩
            have hw := hw.symm
            subst hw
            go_wp2_with fail
            refine (fpush_full B f y _ HI.out).mono ?_
            rintro e w' ⟨rfl, hw⟩
            have hw := hw.symm
            subst hw
            go_wp2_with fail
            refine (flen_any B _ _ _ HI.out).mono ?_
            rintro e w' ⟨rfl, hw⟩
            have hw := hw.symm
            subst hw
            go_wp2_with fail
            refine (fall_any B _ _ _ HI.out).mono ?_
            rintro e v6 ⟨q, rfl, hown, hb⟩
            have HY := Lib.hid (isRowV_of_own hown)
            have HI6 := Lib.hid (HI.out.on hb)
            have HS6 := Lib.hid (HS.out.on hb)
            have HB6 : Hid (Below w.heap.size w v6) := HB.out.trans (hb.mono HB.out.size)
            clear hown hb
            go_wp2_with fail
            refine (same11 (by omega) HY.out ⟨_, _, rfl, .inr ⟨_, _, rfl, HS6.out.2.2⟩⟩).mono ?_
            rintro e v7 ⟨rfl, hq⟩
            have HI7 := Lib.hid (HI6.out.on (hq.below _))
            have HS7 := Lib.hid (HS6.out.on (hq.below _))
            have HB7 : Hid (Below w.heap.size w v7) := HB6.out.trans (hq.below _)
            clear hq
            go_wp2
            go_roundw
            case rel => exact ⟨k + 1, by omega, by go_num, _, _, _, _, _, rfl, HI7.out, HS7.out, HB7.out⟩
            case measure => simp [intOf]; omega
            )
        · by_cases c2 : y = 256
          · subst c2
            by_cases c3 : n = 0
            · (
              subst c3
              go_wp2_with fail
              refine (fpop_none B f _ HI.out).mono ?_
              rintro e w' ⟨rfl, hw⟩
              have hw := hw.symm
              subst hw
              go_wp2_with fail
              refine (rpop_none b o c _).mono ?_
              rintro e w' ⟨rfl, hw⟩
              have hw := hw.symm
              subst hw
              go_wp2_with fail
              refine (flen_any B _ _ _ HI.out).mono ?_
              rintro e w' ⟨rfl, hw⟩
              have hw := hw.symm
              subst hw
              go_wp2_with fail
              refine (fall_any B _ _ _ HI.out).mono ?_
              rintro e v6 ⟨q, rfl, hown, hb⟩
              have HY := Lib.hid (isRowV_of_own hown)
              have HI6 := Lib.hid (HI.out.on hb)
              have HS6 := Lib.hid (HS.out.on hb)
              have HB6 : Hid (Below w.heap.size w v6) := HB.out.trans (hb.mono HB.out.size)
              clear hown hb
              go_wp2_with fail
              refine (same11 (by omega) HY.out ⟨_, _, rfl, .inr ⟨_, _, rfl, HS6.out.2.2⟩⟩).mono ?_
              rintro e v7 ⟨rfl, hq⟩
              have HI7 := Lib.hid (HI6.out.on (hq.below _))
              have HS7 := Lib.hid (HS6.out.on (hq.below _))
              have HB7 : Hid (Below w.heap.size w v7) := HB6.out.trans (hq.below _)
              clear hq
              go_wp2
              go_roundw
              case rel => exact ⟨k + 1, by omega, by go_num, _, _, _, _, _, rfl, HI7.out, HS7.out, HB7.out⟩
              case measure => simp [intOf]; omega
              )
            · (
              obtain ⟨m, rfl⟩ : ∃ m, n = m + 1 := ⟨n - 1, by omega⟩
              go_wp2_with fail
              refine (fpop_yes B m f _ HI.out).mono ?_
              rintro e v2 ⟨rfl, hi, hbar⟩
              have HI2 := Lib.hid hi
              have HS2 := Lib.hid (HS.out.bar hbar)
              have HB2 : Hid (Below w.heap.size w v2) := HB.out.trans (hbar.below HBB.out HB.out.size)
              clear hi hbar hx
              go_wp2_with fail
              refine (rpop_yes B b o m c f _ HS2.out (by omega)).mono ?_
              rintro e v3 ⟨o3, c3, rfl, hs, hq⟩
              have HI3 := Lib.hid (HI2.out.on (hq.below _))
              have HS3 := Lib.hid hs
              have HB3 : Hid (Below w.heap.size w v3) := HB2.out.trans (hq.below _)
              have hx3 := (HX.out _ HB3.out).1
              clear hs hq
              have h17 : m ≤ 16 := by omega
              go_wp2_with fail
              refine (flen_any B _ _ _ HI3.out).mono ?_
              rintro e w' ⟨rfl, hw⟩
              have hw := hw.symm
              subst hw
              go_wp2_with fail
              refine (fall_any B _ _ _ HI3.out).mono ?_
              rintro e v6 ⟨q, rfl, hown, hb⟩
              have HY := Lib.hid (isRowV_of_own hown)
              have HI6 := Lib.hid (HI3.out.on hb)
              have HS6 := Lib.hid (HS3.out.on hb)
              have HB6 : Hid (Below w.heap.size w v6) := HB3.out.trans (hb.mono HB3.out.size)
              clear hown hb
              go_wp2_with fail
              refine (same11 (by omega) HY.out ⟨_, _, rfl, .inr ⟨_, _, rfl, HS6.out.2.2⟩⟩).mono ?_
              rintro e v7 ⟨rfl, hq⟩
              have HI7 := Lib.hid (HI6.out.on (hq.below _))
              have HS7 := Lib.hid (HS6.out.on (hq.below _))
              have HB7 : Hid (Below w.heap.size w v7) := HB6.out.trans (hq.below _)
              clear hq
              go_wp2
              go_roundw
              case rel => exact ⟨k + 1, by omega, by go_num, _, _, _, _, _, rfl, HI7.out, HS7.out, HB7.out⟩
              case measure => simp [intOf]; omega
              )
          · by_cases c3 : y = 257
            · subst c3
              (
              go_wp2_with fail
              refine (fclear_any B n f _ HI.out).mono ?_
              rintro e v2 ⟨rfl, hi, hbar⟩
              have HI2 := Lib.hid (hi f)
              have HB2 : Hid (Below w.heap.size w v2) := HB.out.trans (hbar.below HBB.out HB.out.size)
              have HL2 : Hid (B < v2.heap.size) := HI2.out.lt
              clear hi hbar hx
              obtain ⟨v3, hv3⟩ : ∃ v3, v3 = v2.alloc (.cells #[] 5) := ⟨_, rfl⟩
              have HI3 : Hid (IsFifo v3 B 0 f) := by rw [hv3]; exact HI2.out.on ((Below.refl _ _).alloc (Nat.le_refl _) _)
              have HS3 : Hid (IsBs B v3 v2.heap.size 0 0 0 f) := ⟨Nat.le_refl _, by have := HL2.out; omega, fun i hi => absurd hi (Nat.not_lt_zero i)⟩
              have HB3 : Hid (Below w.heap.size w v3) := by rw [hv3]; exact HB2.out.alloc HB2.out.size _
              have HV := Lib.hid hv3
              clear hv3
              go_wp2_with fail
              rw [← HV.out]
              clear HV
              refine (flen_any B _ _ _ HI3.out).mono ?_
              rintro e w' ⟨rfl, hw⟩
              have hw := hw.symm
              subst hw
              go_wp2_with fail
              refine (fall_any B _ _ _ HI3.out).mono ?_
              rintro e v6 ⟨q, rfl, hown, hb⟩
              have HY := Lib.hid (isRowV_of_own hown)
              have HI6 := Lib.hid (HI3.out.on hb)
              have HS6 := Lib.hid (HS3.out.on hb)
              have HB6 : Hid (Below w.heap.size w v6) := HB3.out.trans (hb.mono HB3.out.size)
              clear hown hb
              go_wp2_with fail
              refine (same11 (by omega) HY.out ⟨_, _, rfl, .inr ⟨_, _, rfl, HS6.out.2.2⟩⟩).mono ?_
              rintro e v7 ⟨rfl, hq⟩
              have HI7 := Lib.hid (HI6.out.on (hq.below _))
              have HS7 := Lib.hid (HS6.out.on (hq.below _))
              have HB7 : Hid (Below w.heap.size w v7) := HB6.out.trans (hq.below _)
              clear hq
              go_wp2
              go_roundw
              case rel => exact ⟨k + 1, by omega, by go_num, _, _, _, _, _, rfl, HI7.out, HS7.out, HB7.out⟩
              case measure => simp [intOf]; omega
              )
            · (
              go_wp2_with fail
              refine (flen_any B _ _ _ HI.out).mono ?_
              rintro e w' ⟨rfl, hw⟩
              have hw := hw.symm
              subst hw
              go_wp2_with fail
              refine (fall_any B _ _ _ HI.out).mono ?_
              rintro e v6 ⟨q, rfl, hown, hb⟩
              have HY := Lib.hid (isRowV_of_own hown)
              have HI6 := Lib.hid (HI.out.on hb)
              have HS6 := Lib.hid (HS.out.on hb)
              have HB6 : Hid (Below w.heap.size w v6) := HB.out.trans (hb.mono HB.out.size)
              clear hown hb
              go_wp2_with fail
              refine (same11 (by omega) HY.out ⟨_, _, rfl, .inr ⟨_, _, rfl, HS6.out.2.2⟩⟩).mono ?_
              rintro e v7 ⟨rfl, hq⟩
              have HI7 := Lib.hid (HI6.out.on (hq.below _))
              have HS7 := Lib.hid (HS6.out.on (hq.below _))
              have HB7 : Hid (Below w.heap.size w v7) := HB6.out.trans (hq.below _)
              clear hq
              go_wp2
              go_roundw
              case rel => exact ⟨k + 1, by omega, by go_num, _, _, _, _, _, rfl, HI7.out, HS7.out, HB7.out⟩
              case measure => simp [intOf]; omega
              )
      · obtain rfl : k = len := by omega
        go_wp2_with fail
        refine (awake11_any _).mono ?_
        rintro e v4 ⟨rfl, hb⟩
        go_wp2
        go_ret
        exact ⟨rfl, HB.out.trans (hb.mono HB.out.size)⟩
  · unfold maxLen at hl
    go_enter Try.func3, Try.ntmps3
    go_wp2_with fail
    refine (awake11_any _).mono ?_
    rintro e v1 ⟨rfl, hb⟩
    go_wp2
    go_ret
    exact ⟨rfl, hb⟩
end fifoPlays
end Go.Proofs.Ytidjabmimcajaaa
