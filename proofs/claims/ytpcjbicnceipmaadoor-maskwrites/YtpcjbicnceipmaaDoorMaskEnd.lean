/- Layer 9: the walks of MaskLegal, MaskNames, MaskWrites. -/
import Derived.Test.YtpcjbicnceipmaaDoorMaskNums
import Derived.Test.YtpcjbicnceipmaaDoorMaskRL
namespace Go.Proofs.YtpcjbicnceipmaaDoor
open Go.RowKit
set_option linter.unusedVariables false

namespace maskLegal
set_option maxHeartbeats 2000000 in
theorem no (c x : Int) (w : World) (h : ∀ k, k < 23 → mnum k ≠ c) (ht : RegTab w) :
    Calls Tryd.prog 4 #[.int .i64 c, .int .u32 x] w fun e w' => e = .returned (.bool true) ∧ Below w.heap.size w w' := by
  have HF : Hid (Calls Tryd.prog 15 #[.int .i64 c, .int .u32 x] w fun e w' => e = .returned (.tuple #[.int .u32 0, .int .i64 8]) ∧ Below w.heap.size w w') := legal_no c x w h ht
  have HP : Hid (∀ W : World, Calls Tryd.prog 8 #[.int .i64 c] W fun e w' => e = .returned (.int .i64 (-1)) ∧ Below W.heap.size W w') := fun W => rplace_no c W h
  have HT : Hid (RegTab w) := ht
  clear h ht
  go_enter Tryd.func4, Tryd.ntmps4
  go_wp2_with fail
  refine Calls.mono (Hid.out HF) ?_
  rintro e w1 ⟨rfl, hb⟩
  have HB := Lib.hid hb
  clear hb
  go_wp2_with fail
  refine Calls.mono (HP.out _) ?_
  rintro e w2 ⟨rfl, hb2⟩
  have HB2 : Hid (Below w.heap.size w w2) := HB.out.trans (hb2.mono HB.out.size)
  clear hb2
  go_wp2_with fail
  refine (awake9_any _ (HT.out.on HB2.out)).mono ?_
  rintro e w3 ⟨rfl, hb3⟩
  have HB3 : Hid (Below w.heap.size w w3) := HB2.out.trans (hb3.mono HB2.out.size)
  clear hb3
  go_wp2
  go_ret
  exact ⟨rfl, HB3.out⟩

set_option maxHeartbeats 2000000 in
theorem yes (k : Nat) (x : Int) (w : World) (hk : k < 23) (x0 : 0 ≤ x) (x1 : x < 4294967296) (ht : RegTab w) :
    Calls Tryd.prog 4 #[.int .i64 (mnum k), .int .u32 x] w fun e w' => e = .returned (.bool true) ∧ Below w.heap.size w w' := by
  have hl := mlegal_bd k hk x x0 x1
  have HF : Hid (∀ W : World, RegTab W → Calls Tryd.prog 15 #[.int .i64 (mnum k), .int .u32 x] W fun e w' => e = .returned (.tuple #[.int .u32 (mlegal k x), .int .i64 0]) ∧ Below W.heap.size W w') := fun W ht => legal_yes k x W hk x0 x1 ht
  have HG : Hid (∀ W : World, RegTab W → Calls Tryd.prog 15 #[.int .i64 (mnum k), .int .u32 (mlegal k x)] W fun e w' => e = .returned (.tuple #[.int .u32 (mlegal k x), .int .i64 0]) ∧ Below W.heap.size W w') := fun W ht => by
    have := legal_yes k (mlegal k x) W hk hl.1 hl.2 ht
    rw [mlegal_again k hk x x0 x1] at this
    exact this
  have HP : Hid (∀ W : World, Calls Tryd.prog 8 #[.int .i64 (mnum k)] W fun e w' => e = .returned (.int .i64 k) ∧ Below W.heap.size W w') := fun W => rplace_yes k W hk
  have HR : Hid (∀ W : World, Calls Tryd.prog 16 #[.int .i64 (mnum k), .int .u32 x] W fun e w' => e = .returned (.int .u32 (mlegal k x)) ∧ Below W.heap.size W w') := fun W => rlegal_yes k x W hk x0 x1
  have HT : Hid (RegTab w) := ht
  clear ht hl
  have i0 : (0 : Int) ≤ (k : Int) := by omega
  generalize mlegal k x = y at *
  generalize mnum k = c at *
  go_enter Tryd.func4, Tryd.ntmps4
  go_wp2_with fail
  refine Calls.mono (HF.out _ HT.out) ?_
  rintro e w1 ⟨rfl, hb⟩
  have HB := Lib.hid hb
  clear hb
  go_wp2_with fail
  refine Calls.mono (HP.out _) ?_
  rintro e w2 ⟨rfl, hb2⟩
  have HB2 : Hid (Below w.heap.size w w2) := HB.out.trans (hb2.mono HB.out.size)
  clear hb2
  go_wp2_with fail
  refine Calls.mono (HG.out _ (HT.out.on HB2.out)) ?_
  rintro e w3 ⟨rfl, hb3⟩
  have HB3 : Hid (Below w.heap.size w w3) := HB2.out.trans (hb3.mono HB2.out.size)
  clear hb3
  go_wp2_with fail
  refine Calls.mono (HR.out _) ?_
  rintro e w4 ⟨rfl, hb4⟩
  have HB4 : Hid (Below w.heap.size w w4) := HB3.out.trans (hb4.mono HB3.out.size)
  clear hb4
  go_wp2_with fail
  refine (awake9_any _ (HT.out.on HB4.out)).mono ?_
  rintro e w5 ⟨rfl, hb5⟩
  have HB5 : Hid (Below w.heap.size w w5) := HB4.out.trans (hb5.mono HB4.out.size)
  clear hb5
  go_wp2
  go_ret
  exact ⟨rfl, HB5.out⟩

theorem walk (c x : Int) (w : World) (w0 : (Lit.int .i64 c).wf = true) (w1 : (Lit.int .u32 x).wf = true) (ht : RegTab w) :
    Calls Tryd.prog 4 #[.int .i64 c, .int .u32 x] w fun e w' => e = .returned (.bool true) ∧ Below w.heap.size w w' := by
  have hx := bounds_u32 w1
  rcases mplace c with ⟨k, hk, rfl⟩ | h
  · exact yes k x w hk (by omega) (by omega) ht
  · exact no c x w h ht
end maskLegal

namespace maskWrites
set_option maxHeartbeats 1000000 in
theorem walk (op rs1 imm : Int) (w : World) (w0 : (Lit.int .i64 op).wf = true) (w1 : (Lit.int .i64 rs1).wf = true) (w2 : (Lit.int .u32 imm).wf = true) (ht : RegTab w) :
    Calls Tryd.prog 6 #[.int .i64 op, .int .i64 rs1, .int .u32 imm] w fun e w' => e = .returned (.bool true) ∧ Below w.heap.size w w' := by
  have HT : Hid (RegTab w) := ht
  have HW : Hid (∀ W : World, Calls Tryd.prog 19 #[.int .i64 op, .int .i64 rs1, .int .u32 imm] W fun e w' => e = .returned (.bool (mwrites op rs1 imm)) ∧ w' = W) := mwrites_any op rs1 imm
  have HR : Hid (∀ W : World, Calls Tryd.prog 20 #[.int .i64 op, .int .i64 rs1, .int .u32 imm] W fun e w' => e = .returned (.bool (mwrites op rs1 imm)) ∧ w' = W) := rwrites9_any op rs1 imm
  clear ht w0 w1 w2
  generalize mwrites op rs1 imm = b at *
  go_enter Tryd.func6, Tryd.ntmps6
  go_wp2_with fail
  refine Calls.mono (HW.out _) ?_
  rintro e w1 ⟨rfl, hw⟩; have hw := hw.symm; subst hw
  go_wp2_with fail
  refine Calls.mono (HR.out _) ?_
  rintro e w1 ⟨rfl, hw⟩; have hw := hw.symm; subst hw
  go_wp2_with fail
  refine (awake9_any _ HT.out).mono ?_
  rintro e w2 ⟨rfl, hb⟩
  go_wp2
  go_ret
  exact ⟨rfl, hb⟩
end maskWrites

/-- A row that the call owns, as cells. -/
theorem row_of_nums {w : World} {base : Nat} {v : Value} (h : w.ownsRow base 3 1 v 23 (numsTo 23)) : ∃ g c, v = .slice (some ⟨g, 0, none⟩) 23 c ∧ Row23 w g (fun k => .int .i64 (mnum k)) := by
  obtain ⟨g, c, rfl⟩ : ∃ g c, v = .slice (some ⟨g, 0, none⟩) 23 c := by
    rcases h.2 with ⟨_, h⟩ | ⟨g, cap, cur, rfl, _⟩
    · exact absurd h (by decide)
    · exact ⟨_, _, rfl⟩
  refine ⟨g, c, rfl, fun k hk => ?_⟩
  rw [h.cellAt k (by simpa [numsTo_length] using hk), numsTo_at 23 k hk]

/-- What the loop has found ahead of place j, of a name that stands at place k. -/
def wantZ (c : Int) (k j : Nat) : Int := if k < j then c else 0
def gotB (k j : Nat) : Bool := decide (k < j)
theorem want_0 (c : Int) (k : Nat) : wantZ c k 0 = 0 ∧ gotB k 0 = false := by simp [wantZ, gotB]
theorem want_at (c : Int) (k : Nat) : wantZ c k (k + 1) = c ∧ gotB k (k + 1) = true := by simp [wantZ, gotB]
theorem want_on (c : Int) {k j : Nat} (h : j ≠ k) : wantZ c k (j + 1) = wantZ c k j ∧ gotB k (j + 1) = gotB k j := by
  unfold wantZ gotB
  by_cases q : k < j
  · have q2 : k < j + 1 := by omega
    simp [q, q2]
  · have q2 : ¬ k < j + 1 := by omega
    simp [q, q2]
theorem want_23 (c : Int) {k : Nat} (h : k < 23) : wantZ c k 23 = c ∧ gotB k 23 = true := by simp [wantZ, gotB, h]

namespace maskNames
set_option maxHeartbeats 2000000 in
theorem yes (k : Nat) (w : World) (hk : k < 23) (ht : RegTab w) :
    Calls Tryd.prog 5 #[.string (mname k)] w fun e w' => e = .returned (.bool true) ∧ Below w.heap.size w w' := by
  have HN : Hid (Calls Tryd.prog 10 #[.string (mname k)] w fun e w' => e = .returned (.tuple #[.int .i64 (mnum k), .int .i64 0]) ∧ Below w.heap.size w w') := number_yes k w hk ht
  have HT : Hid (RegTab w) := ht
  have HA : Hid (∀ j, j < 23 → j ≠ k → ((mname j).toList == (mname k).toList) = false) := fun j hj hn => by
    rcases Nat.lt_or_gt_of_ne hn with h | h
    · exact name_ne (mname_apart k j hk h)
    · exact name_ne (fun e => mname_apart j k hj h e.symm)
  have HC : Hid (∀ j, j < 23 → ∃ m : Int, mnum j = m) := fun j _ => ⟨_, rfl⟩
  clear ht
  generalize hs : mname k = s at *
  have HS : Hid (mname k = s) := hs
  generalize hc : mnum k = c at *
  have HCK : Hid (mnum k = c) := hc
  clear hs hc
  go_enter Tryd.func5, Tryd.ntmps5
  go_wp2_with fail
  refine Calls.mono (Hid.out HN) ?_
  rintro e w1 ⟨rfl, hb⟩
  have HB1 := Lib.hid hb
  clear hb
  go_wp2_with fail
  refine (numbers_any _ (HT.out.on HB1.out)).mono ?_
  rintro e w2 ⟨v, rfl, ho, hb⟩
  have HB2 : Hid (Below w.heap.size w w2) := HB1.out.trans (hb.mono HB1.out.size)
  obtain ⟨g, cp, rfl, hr⟩ := row_of_nums ho
  clear hb ho
  go_wp2_with fail
  refine (rnumbers_any _).mono ?_
  rintro e w3 ⟨g3, rfl, hr3, hb⟩
  have HB3 : Hid (Below w.heap.size w w3) := HB2.out.trans (hb.mono HB2.out.size)
  have HR : Hid (Row23 w3 g (fun k => .int .i64 (mnum k))) := hr.on hb
  have HR3 : Hid (Row23 w3 g3 (fun k => .int .i64 (mnum k))) := hr3
  clear hb hr hr3
  go_wp2
  go_loopw [7, 8, 9] (fun t b i wr => ∃ j : Nat, j ≤ 23 ∧ i = .int .i64 j ∧ t = .int .i64 (wantZ c k j) ∧ b = .bool (gotB k j) ∧ Below w3.heap.size w3 wr) (fun _ _ i _ => 23 - (intOf i).toNat)
  case atStart => exact ⟨0, Nat.zero_le _, rfl, by rw [(want_0 c k).1], by rw [(want_0 c k).2], Below.refl _ _⟩
  case round =>
    obtain ⟨j, hj, rfl, rfl, rfl, hb⟩ := hrel
    by_cases hlt : j < 23
    · obtain ⟨m, hm⟩ := HC.out j hlt
      have c1 : wr.cell? ⟨g, j, none⟩ = some (.int .i64 m) := by rw [← hm]; exact mcell_on hb (HR.out j hlt)
      have c2 : wr.cell? ⟨g3, j, none⟩ = some (.int .i64 m) := by rw [← hm]; exact mcell_on hb (HR3.out j hlt)
      have HM := Lib.hid hm
      have HB : Hid (Below w3.heap.size w3 wr) := hb
      clear hm hb
      have i0 : (0 : Int) ≤ (j : Int) := by omega
      have i1 : (j : Int) < 23 := by omega
      have HO : Hid (j ≠ k → wantZ c k (j + 1) = wantZ c k j ∧ gotB k (j + 1) = gotB k j) := want_on c
      have HQ : Hid (wantZ c k (k + 1) = c ∧ gotB k (k + 1) = true) := want_at c k
      by_cases hjk : j = k
      · subst hjk
        clear HO
        have hmc : m = c := HM.out.symm.trans HCK.out
        subst hmc
        generalize wantZ m j j = z at *
        generalize gotB j j = b at *
        go_wp2
        go_quiet (fail)
        go_wp2_with fail
        refine (rnames_any9 _).mono ?_
        rintro e w4 ⟨g4, rfl, hr4, hb4⟩
        have c4 : w4.cell? ⟨g4, j, none⟩ = some (.string s) := by rw [← HS.out]; exact hr4 j hlt
        have d2 : w4.cell? ⟨g3, j, none⟩ = some (.int .i64 m) := mcell_on hb4 c2
        have HB4 : Hid (Below w3.heap.size w3 w4) := HB.out.trans (Below.mono (Below.trans (Q.below ⟨_, rfl⟩ wr.heap.size) hb4) HB.out.size)
        clear hb4 hr4 c1 c2
        go_wp2
        go_roundw
        case rel => exact ⟨j + 1, by omega, by go_num, by rw [HQ.out.1], by rw [HQ.out.2], HB4.out⟩
        case measure => simp [intOf]; omega
      · obtain ⟨o1, o2⟩ := HO.out hjk
        have O1 : Hid (wantZ c k (j + 1) = wantZ c k j) := o1
        have O2 : Hid (gotB k (j + 1) = gotB k j) := o2
        have hna := HA.out j hlt hjk
        clear o1 o2 HO HQ
        generalize wantZ c k j = z at *
        generalize gotB k j = b at *
        generalize hsj : mname j = sj at *
        have HSJ : Hid (mname j = sj) := hsj
        clear hsj hjk
        go_wp2
        go_quiet (fail)
        go_wp2_with fail
        refine (rnames_any9 _).mono ?_
        rintro e w4 ⟨g4, rfl, hr4, hb4⟩
        have c4 : w4.cell? ⟨g4, j, none⟩ = some (.string sj) := by rw [← HSJ.out]; exact hr4 j hlt
        have HB4 : Hid (Below w3.heap.size w3 w4) := HB.out.trans (Below.mono (Below.trans (Q.below ⟨_, rfl⟩ wr.heap.size) hb4) HB.out.size)
        clear hb4 hr4 c1 c2
        go_wp2
        go_roundw
        case rel => exact ⟨j + 1, by omega, by go_num, by rw [O1.out], by rw [O2.out], HB4.out⟩
        case measure => simp [intOf]; omega
    · obtain rfl : j = 23 := by omega
      have e1 := want_23 c hk
      rw [e1.1, e1.2]
      have HBR : Hid (Below w.heap.size w wr) := HB3.out.trans (hb.mono HB3.out.size)
      clear e1 hb
      go_wp2_with fail
      refine (awake9_any _ (HT.out.on HBR.out)).mono ?_
      rintro e w5 ⟨rfl, hb5⟩
      have HB5 : Hid (Below w.heap.size w w5) := HBR.out.trans (hb5.mono HBR.out.size)
      clear hb5
      go_wp2
      go_ret
      exact ⟨rfl, HB5.out⟩

set_option maxHeartbeats 2000000 in
theorem no (s : ByteArray) (w : World) (h : ∀ k, k < 23 → mname k ≠ s) (ht : RegTab w) :
    Calls Tryd.prog 5 #[.string s] w fun e w' => e = .returned (.bool true) ∧ Below w.heap.size w w' := by
  have HN : Hid (Calls Tryd.prog 10 #[.string s] w fun e w' => e = .returned (.tuple #[.int .i64 0, .int .i64 8]) ∧ Below w.heap.size w w') := number_no s w h ht
  have HT : Hid (RegTab w) := ht
  have HA : Hid (∀ j, j < 23 → ((mname j).toList == s.toList) = false) := fun j hj => name_ne (h j hj)
  have HC : Hid (∀ j, j < 23 → ∃ m : Int, mnum j = m) := fun j _ => ⟨_, rfl⟩
  clear ht h
  go_enter Tryd.func5, Tryd.ntmps5
  go_wp2_with fail
  refine Calls.mono (Hid.out HN) ?_
  rintro e w1 ⟨rfl, hb⟩
  have HB1 := Lib.hid hb
  clear hb
  go_wp2_with fail
  refine (numbers_any _ (HT.out.on HB1.out)).mono ?_
  rintro e w2 ⟨v, rfl, ho, hb⟩
  have HB2 : Hid (Below w.heap.size w w2) := HB1.out.trans (hb.mono HB1.out.size)
  obtain ⟨g, cp, rfl, hr⟩ := row_of_nums ho
  clear hb ho
  go_wp2_with fail
  refine (rnumbers_any _).mono ?_
  rintro e w3 ⟨g3, rfl, hr3, hb⟩
  have HB3 : Hid (Below w.heap.size w w3) := HB2.out.trans (hb.mono HB2.out.size)
  have HR : Hid (Row23 w3 g (fun k => .int .i64 (mnum k))) := hr.on hb
  have HR3 : Hid (Row23 w3 g3 (fun k => .int .i64 (mnum k))) := hr3
  clear hb hr hr3
  go_wp2
  go_loopw [7, 8, 9] (fun t b i wr => ∃ j : Nat, j ≤ 23 ∧ i = .int .i64 j ∧ t = .int .i64 0 ∧ b = .bool false ∧ Below w3.heap.size w3 wr) (fun _ _ i _ => 23 - (intOf i).toNat)
  case atStart => exact ⟨0, Nat.zero_le _, rfl, rfl, rfl, Below.refl _ _⟩
  case round =>
    obtain ⟨j, hj, rfl, rfl, rfl, hb⟩ := hrel
    by_cases hlt : j < 23
    · obtain ⟨m, hm⟩ := HC.out j hlt
      have c1 : wr.cell? ⟨g, j, none⟩ = some (.int .i64 m) := by rw [← hm]; exact mcell_on hb (HR.out j hlt)
      have c2 : wr.cell? ⟨g3, j, none⟩ = some (.int .i64 m) := by rw [← hm]; exact mcell_on hb (HR3.out j hlt)
      have HB : Hid (Below w3.heap.size w3 wr) := hb
      clear hm hb
      have i0 : (0 : Int) ≤ (j : Int) := by omega
      have i1 : (j : Int) < 23 := by omega
      have hna := HA.out j hlt
      generalize hsj : mname j = sj at *
      have HSJ : Hid (mname j = sj) := hsj
      clear hsj
      go_wp2
      go_quiet (fail)
      go_wp2_with fail
      refine (rnames_any9 _).mono ?_
      rintro e w4 ⟨g4, rfl, hr4, hb4⟩
      have c4 : w4.cell? ⟨g4, j, none⟩ = some (.string sj) := by rw [← HSJ.out]; exact hr4 j hlt
      have HB4 : Hid (Below w3.heap.size w3 w4) := HB.out.trans (Below.mono (Below.trans (Q.below ⟨_, rfl⟩ wr.heap.size) hb4) HB.out.size)
      clear hb4 hr4 c1 c2
      go_wp2
      go_roundw
      case rel => exact ⟨j + 1, by omega, by go_num, rfl, rfl, HB4.out⟩
      case measure => simp [intOf]; omega
    · obtain rfl : j = 23 := by omega
      have HBR : Hid (Below w.heap.size w wr) := HB3.out.trans (hb.mono HB3.out.size)
      clear hb
      go_wp2_with fail
      refine (awake9_any _ (HT.out.on HBR.out)).mono ?_
      rintro e w5 ⟨rfl, hb5⟩
      have HB5 : Hid (Below w.heap.size w w5) := HBR.out.trans (hb5.mono HBR.out.size)
      clear hb5
      go_wp2
      go_ret
      exact ⟨rfl, HB5.out⟩

theorem walk (s : ByteArray) (w : World) (w0 : s.size ≤ maxLen) (ht : RegTab w) :
    Calls Tryd.prog 5 #[.string s] w fun e w' => e = .returned (.bool true) ∧ Below w.heap.size w w' := by
  rcases mspot s with ⟨k, hk, rfl⟩ | h
  · exact yes k w hk ht
  · exact no s w h ht
end maskNames
end Go.Proofs.YtpcjbicnceipmaaDoor
