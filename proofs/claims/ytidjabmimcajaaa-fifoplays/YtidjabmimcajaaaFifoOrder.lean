/- Layer 11: the walk of FifoOrder. -/
import Derived.Test.YtidjabmimcajaaaFifoAwake
import Derived.Test.YtidjabmimcajaaaFifoRef
namespace Go.Proofs.Ytidjabmimcajaaa
open Go.RowKit
set_option linter.unusedVariables false

/-- Bytes as an argument: none, or len of them, f the bytes. -/
def IsBytes (w : World) (a : Option Addr) (len : Nat) (f : Nat → Int) : Prop :=
  len ≤ maxLen ∧ (len = 0 ∨ ∃ b o, a = some ⟨b, o, none⟩ ∧ ∀ i, i < len → w.cell? ⟨b, o + i, none⟩ = some (.int .u8 (f i)))
theorem isBytes_of {w : World} {a : Option Addr} {len cap : Nat} {z : List Int} (h : IsRow .u8 w a len cap z) : IsBytes w a len (fun i => z.getD i 0) := by
  rcases h with ⟨rfl, rfl, rfl, rfl⟩ | ⟨x, rfl, hl, hm, hz, hcell, hwz⟩
  · exact ⟨Nat.zero_le _, .inl rfl⟩
  · refine ⟨by omega, ?_⟩
    by_cases h0 : len = 0
    · exact .inl h0
    · obtain ⟨b, off, spot⟩ := x
      have hspot : spot = none := by simpa [Addr.add] using World.cell?_spot (hcell 0 (by omega))
      subst hspot
      exact .inr ⟨b, off, rfl, fun i hi => by rw [← add_plain]; exact hcell i (by omega)⟩
theorem IsBytes.on {W w1 : World} {a : Option Addr} {len : Nat} {f : Nat → Int} (h : IsBytes W a len f) (hb : Below W.heap.size W w1) : IsBytes w1 a len f := by
  obtain ⟨hl, h⟩ := h
  refine ⟨hl, ?_⟩
  rcases h with h | ⟨b, off, ha, hc⟩
  · exact .inl h
  · refine .inr ⟨b, off, ha, fun i hi => ?_⟩
    rw [hb.cell (World.block_lt_of_cell? W _ (hc i hi))]; exact hc i hi
theorem IsBytes.at {W : World} {a : Option Addr} {len : Nat} {f : Nat → Int} (h : IsBytes W a len f) {k : Nat} (hk : k < len) : ∃ b off, a = some ⟨b, off, none⟩ ∧ W.cell? ⟨b, off + k, none⟩ = some (.int .u8 (f k)) := by
  rcases h.2 with h | ⟨b, off, ha, hc⟩
  · omega
  · exact ⟨b, off, ha, hc k hk⟩

namespace fifoOrder
set_option maxHeartbeats 1600000 in
theorem walk (a : Option Addr) (len cap : Nat) (z : List Int) (gone : Int) (w : World) (w0 : IsRow .u8 w a len cap z) (w1 : (Lit.int .u8 gone).wf = true) :
    Calls Try.prog 4 #[.slice a len cap, .int .u8 gone] w fun e w' => e = .returned (.bool true) ∧ Below w.heap.size w w' := by
  have HR := Lib.hid (isBytes_of w0)
  have hl := (isBytes_of w0).1
  have hg := bounds_u8 w1
  obtain ⟨G, rfl⟩ : ∃ G : Nat, gone = (G : Int) := ⟨gone.toNat, by omega⟩
  have hG : G < 256 := by omega
  clear w0 w1 hg
  generalize (fun i => z.getD i 0) = f at HR
  by_cases hlen : len ≤ 16
  · clear hl
    go_enter Try.func4, Try.ntmps4
    go_wp2_with fail
    refine (fnew_row w).mono ?_
    rintro e v1 ⟨B, rfl, hB, hi, hb⟩
    have HI := Lib.hid hi
    have HB := Lib.hid hb
    have HBB := Lib.hid hB
    clear hi hb hB
    go_wp2_with fail
    go_loopw [6] (fun i wr => ∃ k : Nat, k ≤ G ∧ i = .int .i64 k ∧ IsFifo wr B 0 f ∧ Below w.heap.size w wr) (fun i _ => G - (intOf i).toNat)
    case atStart => exact ⟨0, Nat.zero_le _, rfl, HI.out f, HB.out⟩
    case round =>
      obtain ⟨k, hk, rfl, hi, hb⟩ := hrel
      have HI1 := Lib.hid hi
      have HB1 := Lib.hid hb
      clear hi hb
      by_cases hlt : k < G
      · go_wp2_with fail
        refine (fpush_yes B 0 f _ _ HI1.out (by omega)).mono ?_
        rintro e v2 ⟨rfl, hi, hbar⟩
        have HI2 := Lib.hid hi
        have HB2 : Hid (Below w.heap.size w v2) := HB1.out.trans (hbar.below HBB.out HB1.out.size)
        clear hi hbar
        go_wp2_with fail
        refine (fpop_yes B 0 _ _ HI2.out).mono ?_
        rintro e v3 ⟨rfl, hi, hbar⟩
        have HI3 : Hid (IsFifo v3 B 0 f) := hi.congr (fun i h => absurd h (Nat.not_lt_zero i))
        have HB3 : Hid (Below w.heap.size w v3) := HB2.out.trans (hbar.below HBB.out HB2.out.size)
        clear hi hbar
        go_wp2
        go_roundw
        case rel => exact ⟨k + 1, by omega, by go_num, HI3.out, HB3.out⟩
        case measure => simp [intOf]; omega
      · clear HI
        go_wp2_with fail
        go_loopw [7] (fun i wr => ∃ k : Nat, k ≤ len ∧ i = .int .i64 k ∧ IsFifo wr B k f ∧ Below w.heap.size w wr) (fun i _ => len - (intOf i).toNat)
        case atStart => exact ⟨0, Nat.zero_le _, rfl, HI1.out, HB1.out⟩
        case round =>
          clear HI1 HB1 hlt hk
          obtain ⟨j, hj, rfl, hi, hb⟩ := hrel
          have HI2 := Lib.hid hi
          have HB2 := Lib.hid hb
          clear hi hb
          by_cases hlt : j < len
          · obtain ⟨xb, xo, rfl, hx⟩ := (HR.out.on (HB2.out)).at hlt
            go_wp2_with fail
            refine (fpush_yes B j f _ _ HI2.out (by omega)).mono ?_
            rintro e v3 ⟨rfl, hi, hbar⟩
            have HI3 : Hid (IsFifo v3 B (j + 1) f) := hi.congr (fun i h => by
              by_cases c : i = j
              · subst c; rw [snoc_at]
              · rw [snoc_lt (by omega)])
            have HB3 : Hid (Below w.heap.size w v3) := HB2.out.trans (hbar.below HBB.out HB2.out.size)
            clear hi hbar hx
            go_wp2
            go_roundw
            case rel => exact ⟨j + 1, by omega, by go_num, HI3.out, HB3.out⟩
            case measure => simp [intOf]; omega
          · obtain rfl : j = len := by omega
            clear hlt hj
            go_wp2_with fail
            go_loopw [8] (fun i wr => ∃ k : Nat, k ≤ j ∧ i = .int .i64 k ∧ IsFifo wr B (j - k) (fun i => f (k + i)) ∧ Below w.heap.size w wr) (fun i _ => j - (intOf i).toNat)
            case atStart => exact ⟨0, Nat.zero_le _, rfl, HI2.out.congr (fun i _ => by rw [Nat.zero_add]), HB2.out⟩
            case round =>
              clear HI2 HB2
              obtain ⟨k, hk, rfl, hi, hb⟩ := hrel
              have HI3 := Lib.hid hi
              have HB3 := Lib.hid hb
              clear hi hb
              by_cases hlt : k < j
              · obtain ⟨m, hm⟩ : ∃ m, j - k = m + 1 := ⟨j - k - 1, by omega⟩
                have HI4 : Hid (IsFifo wr B (m + 1) (fun i => f (k + i))) := by have := HI3.out; rwa [hm] at this
                go_wp2_with fail
                refine (fpop_yes B m _ _ HI4.out).mono ?_
                rintro e v3 ⟨rfl, hi, hbar⟩
                have HI5 : Hid (IsFifo v3 B (j - (k + 1)) (fun i => f (k + 1 + i))) := by
                  rw [show j - (k + 1) = m from by omega]
                  exact hi.congr (fun i _ => by rw [show k + (i + 1) = k + 1 + i from by omega])
                have HB5 : Hid (Below w.heap.size w v3) := HB3.out.trans (hbar.below HBB.out HB3.out.size)
                obtain ⟨xb, xo, rfl, hx⟩ := (HR.out.on HB5.out).at hlt
                clear hi hbar HI3 HI4
                simp only [Nat.add_zero]
                go_wp2
                go_roundw
                case rel => exact ⟨k + 1, by omega, by go_num, HI5.out, HB5.out⟩
                case measure => simp [intOf]; omega
              · obtain rfl : k = j := by omega
                have HI4 : Hid (IsFifo wr B 0 (fun i => f (k + i))) := by have := HI3.out; rwa [Nat.sub_self] at this
                clear hk hlt HI3
                go_wp2_with fail
                refine (fpop_none B _ _ HI4.out).mono ?_
                rintro e v3 ⟨rfl, hw⟩
                have hw := hw.symm
                subst hw
                go_wp2_with fail
                refine (awake11_any _).mono ?_
                rintro e v4 ⟨rfl, hb⟩
                go_wp2
                go_ret
                exact ⟨rfl, HB3.out.trans (hb.mono HB3.out.size)⟩
  · unfold maxLen at hl
    go_enter Try.func4, Try.ntmps4
    go_wp2_with fail
    refine (awake11_any _).mono ?_
    rintro e v1 ⟨rfl, hb⟩
    go_wp2
    go_ret
    exact ⟨rfl, hb⟩
end fifoOrder
end Go.Proofs.Ytidjabmimcajaaa
