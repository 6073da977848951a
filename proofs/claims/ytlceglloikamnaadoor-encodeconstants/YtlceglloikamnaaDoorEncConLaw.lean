/- Layer 4: walk of EncodeConstants. -/
import Derived.Test.YtlceglloikamnaaDoorEncCon
import Derived.Deep.RegionHeld3
namespace Go.Proofs.YtlceglloikamnaaDoor
open Go.RowKit
set_option linter.unusedVariables false

/-- Six cells of block g from off on. -/
def SixA (w : World) (g off : Nat) (a b c d e f : Int) : Prop := w.cell? ⟨g, off, none⟩ = some (.int .i64 a) ∧ w.cell? ⟨g, off + 1, none⟩ = some (.int .i64 b) ∧ w.cell? ⟨g, off + 2, none⟩ = some (.int .i64 c) ∧ w.cell? ⟨g, off + 3, none⟩ = some (.int .i64 d) ∧ w.cell? ⟨g, off + 4, none⟩ = some (.int .u32 e) ∧ w.cell? ⟨g, off + 5, none⟩ = some (.int .i64 f)
theorem SixA.on {W w1 : World} {B o : Nat} {a b c d e f : Int} (h : SixA W B o a b c d e f) (hb : Below W.heap.size W w1) : SixA w1 B o a b c d e f := by
  obtain ⟨h0, h1, h2, h3, h4, h5⟩ := h
  exact ⟨ecell_on hb h0, ecell_on hb h1, ecell_on hb h2, ecell_on hb h3, ecell_on hb h4, ecell_on hb h5⟩
theorem own_addi {w : World} {base : Nat} {e : TypeId} {v : Value} {rd rs n : Int} (h : w.ownsRow base e 6 v 1 (addiC rd rs n)) : ∃ g c, v = .slice (some ⟨g, 0, none⟩) 1 c ∧ SixA w g 0 19 rd rs 0 n 0 := by
  obtain ⟨g, c, rfl⟩ := owned_some h (by decide)
  exact ⟨g, c, rfl, h.cellAt 0 (by decide), h.cellAt 1 (by decide), h.cellAt 2 (by decide), h.cellAt 3 (by decide), h.cellAt 4 (by decide), h.cellAt 5 (by decide)⟩
theorem own_lui {w : World} {base : Nat} {e : TypeId} {v : Value} {rd n : Int} (h : w.ownsRow base e 6 v 1 (luiC rd n)) : ∃ g c, v = .slice (some ⟨g, 0, none⟩) 1 c ∧ SixA w g 0 1 rd 0 0 n 0 := by
  obtain ⟨g, c, rfl⟩ := owned_some h (by decide)
  exact ⟨g, c, rfl, h.cellAt 0 (by decide), h.cellAt 1 (by decide), h.cellAt 2 (by decide), h.cellAt 3 (by decide), h.cellAt 4 (by decide), h.cellAt 5 (by decide)⟩
theorem own_two {w : World} {base : Nat} {e : TypeId} {v : Value} {rd n m : Int} (h : w.ownsRow base e 6 v 2 (luiC rd n ++ addiC rd rd m)) : ∃ g c, v = .slice (some ⟨g, 0, none⟩) 2 c ∧ SixA w g 0 1 rd 0 0 n 0 ∧ SixA w g 6 19 rd rd 0 m 0 := by
  obtain ⟨g, c, rfl⟩ := owned_some h (by decide)
  exact ⟨g, c, rfl, ⟨h.cellAt 0 (by decide), h.cellAt 1 (by decide), h.cellAt 2 (by decide), h.cellAt 3 (by decide), h.cellAt 4 (by decide), h.cellAt 5 (by decide)⟩, h.cellAt 6 (by decide), h.cellAt 7 (by decide), h.cellAt 8 (by decide), h.cellAt 9 (by decide), h.cellAt 10 (by decide), h.cellAt 11 (by decide)⟩

theorem below_dn {B : Nat} {w w' : World} (h : Below B w w') (k : Nat) : Below B w (w'.drewN k) := h.trans (Q.below ⟨k, rfl⟩ _)

namespace encodeConstants
set_option maxHeartbeats 2000000 in
theorem walk_bad (rd n : Int) (w : World) (h : ¬ (0 ≤ rd ∧ rd ≤ 31)) (tf : FormTab w) (tm : EncTab w) :
    Calls Tryd.prog 6 #[.int .i64 rd, .int .u32 n] w fun e w' => e = .returned (.bool true) ∧ Below w.heap.size w w' := by
  have HF : Hid (FormTab w) := tf
  have HM : Hid (EncTab w) := tm
  have H : Hid (¬ (0 ≤ rd ∧ rd ≤ 31)) := h
  clear tf tm h
  by_cases h1 : rd < 0
  · go_enter Tryd.func6, Tryd.ntmps6
    go_wp2_with (first
      | (go_at_call 17; refine (con_bad rd n _ H.out).mono ?_; rintro e w1 ⟨rfl, hw⟩; have hw := hw.symm; subst hw)
      | (go_at_call 10; refine (eawake_any _ HF.out HM.out).mono ?_; rintro e w2 ⟨rfl, hb⟩))
    go_ret
    exact ⟨rfl, hb⟩
  · have h2 : 31 < rd := by have := H.out; omega
    go_enter Tryd.func6, Tryd.ntmps6
    go_wp2_with (first
      | (go_at_call 17; refine (con_bad rd n _ H.out).mono ?_; rintro e w1 ⟨rfl, hw⟩; have hw := hw.symm; subst hw)
      | (go_at_call 10; refine (eawake_any _ HF.out HM.out).mono ?_; rintro e w2 ⟨rfl, hb⟩))
    go_ret
    exact ⟨rfl, hb⟩

set_option maxHeartbeats 4000000 in
theorem walk_a (rd n : Int) (w : World) (h0 : 0 ≤ n) (h1 : n < 4294967296) (r0 : 0 ≤ rd) (r1 : rd ≤ 31) (hh : hiOf n = 0) (tf : FormTab w) (tm : EncTab w) :
    Calls Tryd.prog 6 #[.int .i64 rd, .int .u32 n] w fun e w' => e = .returned (.bool true) ∧ Below w.heap.size w w' := by
  have HF : Hid (FormTab w) := tf
  have HM : Hid (EncTab w) := tm
  have HH : Hid (hiOf n = 0) := hh
  clear tf tm hh
  go_enter Tryd.func6, Tryd.ntmps6
  go_wp2_with fail
  refine (con_a rd n _ h0 h1 r0 r1 HH.out).mono ?_
  rintro e w1 ⟨v, rfl, hown, hb⟩
  obtain ⟨g, c, rfl, hs⟩ := own_addi hown
  have HB1 : Hid (Below w.heap.size w w1) := hb
  have HS1 : Hid (SixA w1 g 0 19 rd 0 0 n 0) := hs
  clear hown hb hs
  go_wp2_with fail
  refine (rcon_a rd n _ h0 h1 r0 r1 HH.out).mono ?_
  rintro e w2 ⟨v, rfl, hown, hb⟩
  obtain ⟨g2, c2, rfl, hs⟩ := own_addi hown
  have HB2 : Hid (Below w.heap.size w w2) := Below.trans HB1.out (hb.mono HB1.out.size)
  have HS2 : Hid (SixA w2 g 0 19 rd 0 0 n 0) := HS1.out.on hb
  have HS3 : Hid (SixA w2 g2 0 19 rd 0 0 n 0) := hs
  clear hown hb hs
  obtain ⟨c0, c1, c2, c3, c4, c5⟩ := HS2.out
  obtain ⟨d0, d1, d2, d3, d4, d5⟩ := HS3.out
  simp only [Nat.zero_add] at c1 c2 c3 c4 c5 d1 d2 d3 d4 d5
  go_wp2
  refine wp_loop_rounds 2 ?_
  rw [rounds_succ]
  go_wp2
  go_quiet (fail)
  go_wp2
  rw [rounds_succ]
  go_wp2_with fail
  refine (eawake_any _ (FormTab.below HF.out (below_dn HB2.out _)) (EncTab.below HM.out (below_dn HB2.out _))).mono ?_
  rintro e w3 ⟨rfl, hb⟩
  go_wp2
  go_ret
  exact ⟨rfl, Below.trans (below_dn HB2.out _) (hb.mono (below_dn HB2.out _).size)⟩

set_option maxHeartbeats 4000000 in
theorem walk_b (rd n : Int) (w : World) (h0 : 0 ≤ n) (h1 : n < 4294967296) (r0 : 0 ≤ rd) (r1 : rd ≤ 31) (hh : hiOf n ≠ 0) (hl : loOf n = 0) (tf : FormTab w) (tm : EncTab w) :
    Calls Tryd.prog 6 #[.int .i64 rd, .int .u32 n] w fun e w' => e = .returned (.bool true) ∧ Below w.heap.size w w' := by
  have HF : Hid (FormTab w) := tf
  have HM : Hid (EncTab w) := tm
  have HH : Hid (hiOf n ≠ 0) := hh
  have HL : Hid (loOf n = 0) := hl
  clear tf tm hh hl
  go_enter Tryd.func6, Tryd.ntmps6
  go_wp2_with fail
  refine (con_b rd n _ h0 h1 r0 r1 HH.out HL.out).mono ?_
  rintro e w1 ⟨v, rfl, hown, hb⟩
  obtain ⟨g, c, rfl, hs⟩ := own_lui hown
  have HB1 : Hid (Below w.heap.size w w1) := hb
  have HS1 : Hid (SixA w1 g 0 1 rd 0 0 n 0) := hs
  clear hown hb hs
  go_wp2_with fail
  refine (rcon_b rd n _ h0 h1 r0 r1 HH.out HL.out).mono ?_
  rintro e w2 ⟨v, rfl, hown, hb⟩
  obtain ⟨g2, c2, rfl, hs⟩ := own_lui hown
  have HB2 : Hid (Below w.heap.size w w2) := Below.trans HB1.out (hb.mono HB1.out.size)
  have HS2 : Hid (SixA w2 g 0 1 rd 0 0 n 0) := HS1.out.on hb
  have HS3 : Hid (SixA w2 g2 0 1 rd 0 0 n 0) := hs
  clear hown hb hs
  obtain ⟨c0, c1, c2, c3, c4, c5⟩ := HS2.out
  obtain ⟨d0, d1, d2, d3, d4, d5⟩ := HS3.out
  simp only [Nat.zero_add] at c1 c2 c3 c4 c5 d1 d2 d3 d4 d5
  go_wp2
  refine wp_loop_rounds 2 ?_
  rw [rounds_succ]
  go_wp2
  go_quiet (fail)
  go_wp2
  rw [rounds_succ]
  go_wp2_with fail
  refine (eawake_any _ (FormTab.below HF.out (below_dn HB2.out _)) (EncTab.below HM.out (below_dn HB2.out _))).mono ?_
  rintro e w3 ⟨rfl, hb⟩
  go_wp2
  go_ret
  exact ⟨rfl, Below.trans (below_dn HB2.out _) (hb.mono (below_dn HB2.out _).size)⟩

set_option maxHeartbeats 4000000 in
theorem walk_cz (rd n : Int) (w : World) (h0 : 0 ≤ n) (h1 : n < 4294967296) (r0 : 0 ≤ rd) (r1 : rd ≤ 31) (hh : hiOf n ≠ 0) (hl : loOf n ≠ 0) (hz : rd = 0) (tf : FormTab w) (tm : EncTab w) :
    Calls Tryd.prog 6 #[.int .i64 rd, .int .u32 n] w fun e w' => e = .returned (.bool true) ∧ Below w.heap.size w w' := by
  have HF : Hid (FormTab w) := tf
  have HM : Hid (EncTab w) := tm
  have HH : Hid (hiOf n ≠ 0) := hh
  have HL : Hid (loOf n ≠ 0) := hl
  clear tf tm hh hl
  subst hz
  have hsum := hi_lo n h0 h1
  have hbd1 := hi_bd n
  have hbd2 := lo_bd n
  generalize hhi : hiOf n = hi at *
  generalize hlo : loOf n = lo at *
  have EH : Hid (hiOf n = hi) := hhi
  have EL : Hid (loOf n = lo) := hlo
  clear hhi hlo
  cases hln : (lo == n)
  all_goals
    go_enter Tryd.func6, Tryd.ntmps6
    go_wp2_with fail
    refine (con_c 0 n _ h0 h1 r0 r1 (by rw [EH.out]; exact HH.out) (by rw [EL.out]; exact HL.out)).mono ?_
    rintro e w1 ⟨v, rfl, hown, hb⟩
    rw [EH.out, EL.out] at hown
    obtain ⟨g, c, rfl, hs⟩ := own_two hown
    have HB1 : Hid (Below w.heap.size w w1) := hb
    have HS1 : Hid (SixA w1 g 0 1 0 0 0 hi 0 ∧ SixA w1 g 6 19 0 0 0 lo 0) := hs
    clear hown hb hs
    go_wp2_with fail
    refine (rcon_c 0 n _ h0 h1 r0 r1 (by rw [EH.out]; exact HH.out) (by rw [EL.out]; exact HL.out)).mono ?_
    rintro e w2 ⟨v, rfl, hown, hb⟩
    rw [EH.out, EL.out] at hown
    obtain ⟨g2, c2, rfl, hs⟩ := own_two hown
    have HB2 : Hid (Below w.heap.size w w2) := Below.trans HB1.out (hb.mono HB1.out.size)
    have HS2 : Hid (SixA w2 g 0 1 0 0 0 hi 0 ∧ SixA w2 g 6 19 0 0 0 lo 0) := ⟨HS1.out.1.on hb, HS1.out.2.on hb⟩
    have HS3 : Hid (SixA w2 g2 0 1 0 0 0 hi 0 ∧ SixA w2 g2 6 19 0 0 0 lo 0) := hs
    clear hown hb hs
    obtain ⟨⟨c0, c1, c2, c3, c4, c5⟩, x0, x1, x2, x3, x4, x5⟩ := HS2.out
    obtain ⟨⟨d0, d1, d2, d3, d4, d5⟩, y0, y1, y2, y3, y4, y5⟩ := HS3.out
    simp only [Nat.zero_add, Nat.reduceAdd] at c1 c2 c3 c4 c5 d1 d2 d3 d4 d5 x1 x2 x3 x4 x5 y1 y2 y3 y4 y5
    go_wp2
    refine wp_loop_rounds 3 ?_
    rw [rounds_succ]
    go_wp2
    go_quiet (fail)
    go_wp2
    rw [rounds_succ]
    go_wp2
    go_quiet (fail)
    go_wp2
    rw [rounds_succ]
    go_wp2_with fail
    refine (eawake_any _ (FormTab.below HF.out (below_dn HB2.out _)) (EncTab.below HM.out (below_dn HB2.out _))).mono ?_
    rintro e w3 ⟨rfl, hb⟩
    go_wp2
    go_ret
    exact ⟨rfl, Below.trans (below_dn HB2.out _) (hb.mono (below_dn HB2.out _).size)⟩

set_option maxHeartbeats 4000000 in
theorem walk_cn (rd n : Int) (w : World) (h0 : 0 ≤ n) (h1 : n < 4294967296) (r0 : 0 ≤ rd) (r1 : rd ≤ 31) (hh : hiOf n ≠ 0) (hl : loOf n ≠ 0) (hz : rd ≠ 0) (tf : FormTab w) (tm : EncTab w) :
    Calls Tryd.prog 6 #[.int .i64 rd, .int .u32 n] w fun e w' => e = .returned (.bool true) ∧ Below w.heap.size w w' := by
  have HF : Hid (FormTab w) := tf
  have HM : Hid (EncTab w) := tm
  have HH : Hid (hiOf n ≠ 0) := hh
  have HL : Hid (loOf n ≠ 0) := hl
  clear tf tm hh hl
  have hrn : (rd == 0) = false := by simpa using hz
  have hsum := hi_lo n h0 h1
  have hbd1 := hi_bd n
  have hbd2 := lo_bd n
  generalize hhi : hiOf n = hi at *
  generalize hlo : loOf n = lo at *
  have EH : Hid (hiOf n = hi) := hhi
  have EL : Hid (loOf n = lo) := hlo
  clear hhi hlo
  go_enter Tryd.func6, Tryd.ntmps6
  go_wp2_with fail
  refine (con_c rd n _ h0 h1 r0 r1 (by rw [EH.out]; exact HH.out) (by rw [EL.out]; exact HL.out)).mono ?_
  rintro e w1 ⟨v, rfl, hown, hb⟩
  rw [EH.out, EL.out] at hown
  obtain ⟨g, c, rfl, hs⟩ := own_two hown
  have HB1 : Hid (Below w.heap.size w w1) := hb
  have HS1 : Hid (SixA w1 g 0 1 rd 0 0 hi 0 ∧ SixA w1 g 6 19 rd rd 0 lo 0) := hs
  clear hown hb hs
  go_wp2_with fail
  refine (rcon_c rd n _ h0 h1 r0 r1 (by rw [EH.out]; exact HH.out) (by rw [EL.out]; exact HL.out)).mono ?_
  rintro e w2 ⟨v, rfl, hown, hb⟩
  rw [EH.out, EL.out] at hown
  obtain ⟨g2, c2, rfl, hs⟩ := own_two hown
  have HB2 : Hid (Below w.heap.size w w2) := Below.trans HB1.out (hb.mono HB1.out.size)
  have HS2 : Hid (SixA w2 g 0 1 rd 0 0 hi 0 ∧ SixA w2 g 6 19 rd rd 0 lo 0) := ⟨HS1.out.1.on hb, HS1.out.2.on hb⟩
  have HS3 : Hid (SixA w2 g2 0 1 rd 0 0 hi 0 ∧ SixA w2 g2 6 19 rd rd 0 lo 0) := hs
  clear hown hb hs
  obtain ⟨⟨c0, c1, c2, c3, c4, c5⟩, x0, x1, x2, x3, x4, x5⟩ := HS2.out
  obtain ⟨⟨d0, d1, d2, d3, d4, d5⟩, y0, y1, y2, y3, y4, y5⟩ := HS3.out
  simp only [Nat.zero_add, Nat.reduceAdd] at c1 c2 c3 c4 c5 d1 d2 d3 d4 d5 x1 x2 x3 x4 x5 y1 y2 y3 y4 y5
  go_wp2
  refine wp_loop_rounds 3 ?_
  rw [rounds_succ]
  go_wp2
  go_quiet (fail)
  go_wp2
  rw [rounds_succ]
  go_wp2
  go_quiet (fail)
  go_wp2
  rw [rounds_succ]
  go_wp2_with fail
  refine (eawake_any _ (FormTab.below HF.out (below_dn HB2.out _)) (EncTab.below HM.out (below_dn HB2.out _))).mono ?_
  rintro e w3 ⟨rfl, hb⟩
  go_wp2
  go_ret
  exact ⟨rfl, Below.trans (below_dn HB2.out _) (hb.mono (below_dn HB2.out _).size)⟩

theorem walk (rd n : Int) (w : World) (w0 : (Lit.int .i64 rd).wf = true) (w1 : (Lit.int .u32 n).wf = true) (tf : FormTab w) (tm : EncTab w) :
    Calls Tryd.prog 6 #[.int .i64 rd, .int .u32 n] w fun e w' => e = .returned (.bool true) ∧ Below w.heap.size w w' := by
  have hn := bounds_u32 w1
  by_cases hr : 0 ≤ rd ∧ rd ≤ 31
  · by_cases hh : hiOf n = 0
    · exact walk_a rd n w (by omega) (by omega) hr.1 hr.2 hh tf tm
    · by_cases hl : loOf n = 0
      · exact walk_b rd n w (by omega) (by omega) hr.1 hr.2 hh hl tf tm
      · by_cases hz : rd = 0
        · exact walk_cz rd n w (by omega) (by omega) hr.1 hr.2 hh hl hz tf tm
        · exact walk_cn rd n w (by omega) (by omega) hr.1 hr.2 hh hl hz tf tm
  · exact walk_bad rd n w hr tf tm
end encodeConstants
end Go.Proofs.YtlceglloikamnaaDoor
