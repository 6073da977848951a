/- Layer 11: the walk of FifoClones. -/
import Derived.Test.YtidjabmimcajaaaFifoOrder
import Derived.Test.YtidjabmimcajaaaFifoAll2
namespace Go.Proofs.Ytidjabmimcajaaa
open Go.RowKit
set_option linter.unusedVariables false

/-- Two slices of the same bytes. -/
def IsRowV (w : World) (v : Value) (n : Nat) (f : Nat → Int) : Prop := ∃ a c, v = .slice a n c ∧ (n = 0 ∨ ∃ b o, a = some ⟨b, o, none⟩ ∧ ∀ i, i < n → w.cell? ⟨b, o + i, none⟩ = some (.int .u8 (f i)))
theorem isRowV_of_own {w : World} {base n : Nat} {v : Value} {f : Nat → Int} (h : w.ownsRow base 5 1 v n (rowL n f)) : IsRowV w v n f := by
  by_cases c : n = 0
  · subst c
    obtain ⟨_, h | ⟨g, cap, _, hv, _⟩⟩ := h
    · exact ⟨none, 0, h.1, .inl rfl⟩
    · exact ⟨_, cap, hv, .inl rfl⟩
  · obtain ⟨B, cap, hv, _, _, hr⟩ := row_of_own h (by omega)
    exact ⟨_, cap, hv, .inr ⟨B, 0, rfl, fun i hi => by rw [Nat.zero_add]; exact hr i hi⟩⟩
theorem IsRowV.on {W w1 : World} {v : Value} {n : Nat} {f : Nat → Int} (h : IsRowV W v n f) (hb : Below W.heap.size W w1) : IsRowV w1 v n f := by
  obtain ⟨a, c, hv, h⟩ := h
  refine ⟨a, c, hv, ?_⟩
  rcases h with h | ⟨b, off, ha, hc⟩
  · exact .inl h
  · refine .inr ⟨b, off, ha, fun i hi => ?_⟩
    rw [hb.cell (World.block_lt_of_cell? W _ (hc i hi))]; exact hc i hi

set_option maxHeartbeats 400000 in
theorem same_none (a a' : Option Addr) (c c' : Nat) (w : World) :
    Calls Try.prog 14 #[.slice a 0 c, .slice a' 0 c'] w fun e w' => e = .returned (.bool true) ∧ Q w w' := by
  go_enter Try.func14, Try.ntmps14
  go_wp2
  go_loopw [5] (fun i wr => i = .int .i64 0 ∧ Q w wr) (fun _ _ => 0)
  case atStart => exact ⟨rfl, Q.refl _⟩
  case round =>
    obtain ⟨rfl, hq⟩ := hrel
    go_wp2
    go_ret
    exact ⟨rfl, hq⟩

/-- SameBytes of the same bytes. -/
theorem same11 {v v' : Value} {n : Nat} {f : Nat → Int} {w : World} (hn : n ≤ 500) (h : IsRowV w v n f) (h' : IsRowV w v' n f) :
    Calls Try.prog 14 #[v, v'] w fun e w' => e = .returned (.bool true) ∧ Q w w' := by
  obtain ⟨a, c, rfl, h⟩ := h
  obtain ⟨a', c', rfl, h'⟩ := h'
  rcases h with rfl | ⟨b, o, rfl, hc⟩
  · exact same_none _ _ _ _ w
  · rcases h' with rfl | ⟨b', o', rfl, hc'⟩
    · exact same_none _ _ _ _ w
    · exact same_yes f _ _ _ _ _ _ _ w (by unfold maxLen; omega) hc hc'

namespace fifoClones
set_option maxHeartbeats 1600000 in
theorem walk (a : Option Addr) (len cap : Nat) (z : List Int) (x : Int) (w : World) (w0 : IsRow .u8 w a len cap z) (w1 : (Lit.int .u8 x).wf = true) :
    Calls Try.prog 5 #[.slice a len cap, .int .u8 x] w fun e w' => e = .returned (.bool true) ∧ Below w.heap.size w w' := by
  have HR := Lib.hid (isBytes_of w0)
  have hl := (isBytes_of w0).1
  clear w0 w1
  generalize (fun i => z.getD i 0) = f at HR
  by_cases hlen : len ≤ 16
  · clear hl
    go_enter Try.func5, Try.ntmps5
    go_wp2_with fail
    refine (fnew_row w).mono ?_
    rintro e v1 ⟨B, rfl, hB, hi, hb⟩
    have HI := Lib.hid hi
    have HB := Lib.hid hb
    have HBB := Lib.hid hB
    clear hi hb hB
    go_wp2_with fail
    go_loopw [6] (fun i wr => ∃ k : Nat, k ≤ len ∧ i = .int .i64 k ∧ IsFifo wr B k f ∧ Below w.heap.size w wr) (fun i _ => len - (intOf i).toNat)
    case atStart => exact ⟨0, Nat.zero_le _, rfl, HI.out f, HB.out⟩
    case round =>
      clear HI HB
      obtain ⟨j, hj, rfl, hi, hb⟩ := hrel
      have HI2 := Lib.hid hi
      have HB2 := Lib.hid hb
      clear hi hb
      by_cases hlt : j < len
      · obtain ⟨xb, xo, rfl, hx⟩ := (HR.out.on (HB2.out)).at hlt
        go_wp2_with fail
        refine (fpush_yes B j f _ _ HI2.out (by omega)).mono ?_
        rintro e v3 ⟨rfl, hi, hbar⟩
        have HI3 : Hid (IsFifo v3 B (j + 1) f) := hi.congr (fun i h => by
          by_cases c : i = j
          · subst c; rw [snoc_at]
          · rw [snoc_lt (by omega)])
        have HB3 : Hid (Below w.heap.size w v3) := HB2.out.trans (hbar.below HBB.out HB2.out.size)
        clear hi hbar hx
        go_wp2
        go_roundw
        case rel => exact ⟨j + 1, by omega, by go_num, HI3.out, HB3.out⟩
        case measure => simp [intOf]; omega
      · obtain rfl : j = len := by omega
        clear hlt hj
        have HL : Hid (B < wr.heap.size) := HI2.out.lt
        have HV : Hid (IsRowV w (.slice a j cap) j f) := ⟨a, cap, rfl, HR.out.2⟩
        clear HR
        go_wp2_with fail
        refine (fclone_any B j f _ HI2.out).mono ?_
        rintro e v2 ⟨C, rfl, hC, hi, hb⟩
        have HC : Hid (w.heap.size ≤ C) := Nat.le_trans HB2.out.size hC
        have HNE : Hid (B ≠ C) := by have := HL.out; intro h; omega
        have HI3 : Hid (IsFifo v2 B j f) := HI2.out.on hb
        have HJ3 := Lib.hid hi
        have HB3 : Hid (Below w.heap.size w v2) := HB2.out.trans (hb.mono HB2.out.size)
        clear hi hb hC HI2 HB2 HL
        have HPOP : Hid (∃ n g, Calls Try.prog 10 #[.pointer (some ⟨C, 0, none⟩)] v2 fun e w' => (∃ u s, e = .returned (.tuple #[u, s])) ∧ IsFifo w' C n g ∧ Bar C v2 w') := by
          by_cases c : j = 0
          · subst c
            refine ⟨0, f, (fpop_none C f v2 HJ3.out).mono ?_⟩
            rintro e w' ⟨rfl, rfl⟩
            exact ⟨⟨_, _, rfl⟩, HJ3.out, Bar.refl _ _⟩
          · obtain ⟨m, rfl⟩ : ∃ m, j = m + 1 := ⟨j - 1, by omega⟩
            refine ⟨m, fun i => f (i + 1), (fpop_yes C m f v2 HJ3.out).mono ?_⟩
            rintro e w' ⟨rfl, h1, h2⟩
            exact ⟨⟨_, _, rfl⟩, h1, h2⟩
        obtain ⟨n1, g1, hpop⟩ := HPOP.out
        have HPO := Lib.hid hpop
        clear hpop HPOP
        have HPU : Hid (∀ W n g, IsFifo W C n g → ∃ n' g', Calls Try.prog 9 #[.pointer (some ⟨C, 0, none⟩), .int .u8 x] W fun e w' => (∃ s, e = .returned (.bool s)) ∧ IsFifo w' C n' g' ∧ Bar C W w') := fun W n g h => by
          by_cases c : n < 16
          · refine ⟨n + 1, snoc n g x, (fpush_yes C n g x W h c).mono ?_⟩
            rintro e w' ⟨rfl, h1, h2⟩
            exact ⟨⟨_, rfl⟩, h1, h2⟩
          · obtain rfl : n = 16 := by have := h.le; omega
            refine ⟨16, g, (fpush_full C g x W h).mono ?_⟩
            rintro e w' ⟨rfl, rfl⟩
            exact ⟨⟨_, rfl⟩, h, Bar.refl _ _⟩
        go_wp2_with fail
        refine HPO.out.mono ?_
        rintro e v3 ⟨⟨u1, s1, rfl⟩, hj, hbar⟩
        have HI4 : Hid (IsFifo v3 B j f) := HI3.out.bar hbar HNE.out
        have HB4 : Hid (Below w.heap.size w v3) := HB3.out.trans (hbar.below HC.out HB3.out.size)
        obtain ⟨n2, g2, hp⟩ := HPU.out _ _ _ hj
        have HP2 := Lib.hid hp
        clear hj hbar hp
        go_wp2_with fail
        refine HP2.out.mono ?_
        rintro e v4 ⟨⟨s2, rfl⟩, hj, hbar⟩
        have HI5 : Hid (IsFifo v4 B j f) := HI4.out.bar hbar HNE.out
        have HB5 : Hid (Below w.heap.size w v4) := HB4.out.trans (hbar.below HC.out HB4.out.size)
        obtain ⟨n3, g3, hp⟩ := HPU.out _ _ _ hj
        have HP3 := Lib.hid hp
        clear hj hbar hp
        go_wp2_with fail
        refine HP3.out.mono ?_
        rintro e v5 ⟨⟨s3, rfl⟩, hj, hbar⟩
        have HI6 : Hid (IsFifo v5 B j f) := HI5.out.bar hbar HNE.out
        have HB6 : Hid (Below w.heap.size w v5) := HB5.out.trans (hbar.below HC.out HB5.out.size)
        clear hj hbar
        go_wp2_with fail
        refine (fclear_nil v5).mono ?_
        rintro e w' ⟨rfl, hw⟩
        have hw := hw.symm
        subst hw
        go_wp2_with fail
        refine (fpop_nil v5).mono ?_
        rintro e w' ⟨rfl, hw⟩
        have hw := hw.symm
        subst hw
        go_wp2_with fail
        refine (fall_any B j f v5 HI6.out).mono ?_
        rintro e v6 ⟨y, rfl, hown, hb⟩
        have HY := Lib.hid (isRowV_of_own hown)
        have HB7 : Hid (Below w.heap.size w v6) := HB6.out.trans (hb.mono HB6.out.size)
        clear hown hb
        go_wp2_with fail
        refine (same11 (by omega) HY.out (HV.out.on HB7.out)).mono ?_
        rintro e v7 ⟨rfl, hq⟩
        have HB8 : Hid (Below w.heap.size w v7) := HB7.out.trans (hq.below _)
        clear hq
        go_wp2_with (first
          | (go_at_call 9; refine (fpush_nil _ _).mono ?_; rintro e w' ⟨rfl, hw⟩; have hw := hw.symm; subst hw)
          | (go_at_call 13; refine (flen_nil _).mono ?_; rintro e w' ⟨rfl, hw⟩; have hw := hw.symm; subst hw)
          | (go_at_call 15; refine (fall_nil _).mono ?_; rintro e w' ⟨rfl, hw⟩; have hw := hw.symm; subst hw)
          | (go_at_call 16; refine (fclone_nil _).mono ?_; rintro e w' ⟨rfl, hw⟩; have hw := hw.symm; subst hw))
        refine (awake11_any _).mono ?_
        rintro e v8 ⟨rfl, hb⟩
        go_wp2
        go_ret
        exact ⟨rfl, HB8.out.trans (hb.mono HB8.out.size)⟩
  · unfold maxLen at hl
    go_enter Try.func5, Try.ntmps5
    go_wp2_with fail
    refine (awake11_any _).mono ?_
    rintro e v1 ⟨rfl, hb⟩
    go_wp2
    go_ret
    exact ⟨rfl, hb⟩
end fifoClones
end Go.Proofs.Ytidjabmimcajaaa
