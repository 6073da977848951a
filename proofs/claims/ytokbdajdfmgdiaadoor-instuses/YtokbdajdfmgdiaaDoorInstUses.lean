/- The walk of mimesislaw02.InstUses: it answers true and turns nothing that was there. -/
import Derived.Test.YtokbdajdfmgdiaaDoorInstReads
namespace Go.Proofs.YtokbdajdfmgdiaaDoor
open Go.RowKit
set_option linter.unusedVariables false

/-- How many of the registers read are below k. -/
def cnt (lo hi : Int) (k : Nat) : Nat := (if lo ≠ 0 ∧ lo < k then 1 else 0) + (if hi ≠ lo ∧ hi < k then 1 else 0)
theorem cnt_one (lo hi : Int) (h0 : 0 ≤ lo) (h1 : lo ≤ hi) : cnt lo hi 1 = 0 := by
  unfold cnt; split <;> split <;> omega
theorem cnt_end (lo hi : Int) (h0 : 0 ≤ lo) (h1 : lo ≤ hi) (h2 : hi ≤ 31) : cnt lo hi 32 = (readsL lo hi).length := by
  unfold cnt readsL; split <;> split <;> split <;> split <;> simp <;> omega
theorem cnt_no (lo hi : Int) (k : Nat) (hk : 1 ≤ k) (h : ¬ (lo = k ∨ hi = k)) : cnt lo hi (k + 1) = cnt lo hi k := by
  unfold cnt; split <;> split <;> split <;> split <;> omega
theorem cnt_yes (lo hi : Int) (k : Nat) (hk : 1 ≤ k) (h0 : 0 ≤ lo) (h1 : lo ≤ hi) (h : lo = k ∨ hi = k) : cnt lo hi (k + 1) = cnt lo hi k + 1 ∧ cnt lo hi k < (readsL lo hi).length ∧ (readsL lo hi).getD (cnt lo hi k) 0 = k := by
  by_cases z : lo = 0
  · by_cases q : hi = lo
    · omega
    · have e : readsL lo hi = [hi] := by unfold readsL; rw [if_pos z, if_neg q]; rfl
      have c : cnt lo hi k = 0 := by unfold cnt; rw [if_neg (by omega), if_neg (by omega)]
      have d : cnt lo hi (k + 1) = 1 := by unfold cnt; rw [if_neg (by omega), if_pos (by omega)]
      rw [c, d, e]; simp; omega
  · by_cases q : hi = lo
    · have e : readsL lo hi = [lo] := by unfold readsL; rw [if_neg z, if_pos q]; rfl
      have c : cnt lo hi k = 0 := by unfold cnt; rw [if_neg (by omega), if_neg (by omega)]
      have d : cnt lo hi (k + 1) = 1 := by unfold cnt; rw [if_pos (by omega), if_neg (by omega)]
      rw [c, d, e]; simp; omega
    · have e : readsL lo hi = [lo, hi] := by unfold readsL; rw [if_neg z, if_neg q]; rfl
      by_cases r : lo = k
      · have c : cnt lo hi k = 0 := by unfold cnt; rw [if_neg (by omega), if_neg (by omega)]
        have d : cnt lo hi (k + 1) = 1 := by unfold cnt; rw [if_pos (by omega), if_neg (by omega)]
        rw [c, d, e]; simp; omega
      · have c : cnt lo hi k = 1 := by unfold cnt; rw [if_pos (by omega), if_neg (by omega)]
        have d : cnt lo hi (k + 1) = 2 := by unfold cnt; rw [if_pos (by omega), if_pos (by omega)]
        rw [c, d, e]; simp; omega

theorem readsL_pos (lo hi : Int) (h : ¬ (lo = 0 ∧ hi = 0)) : 0 < (readsL lo hi).length := by
  unfold readsL
  by_cases z : lo = 0
  · rw [if_pos z, if_neg (by omega)]; simp
  · rw [if_neg z]; simp

theorem part_bd {n : Int} {h : Bool} (hp : partB n h 31 = true) : 0 ≤ n ∧ n ≤ 31 := by
  cases h
  · have : n = 0 := by simpa [partB] using hp
    omega
  · simpa [partB] using hp

theorem right_bd {op rd rs1 rs2 imm csr : Int} (h : rightB op rd rs1 rs2 imm csr = true) : (0 ≤ rs1 ∧ rs1 ≤ 31) ∧ (0 ≤ rs2 ∧ rs2 ≤ 31) := by
  simp only [rightB, rightOf, Bool.and_eq_true] at h
  exact ⟨part_bd h.2.2.1, part_bd h.2.2.2.1⟩

/-- Nothing is read: the slice is empty. -/
theorem reads_none (op rd rs1 rs2 imm csr : Int) (w : World) (h0 : 0 ≤ imm) (h1 : imm < 4294967296) (ht : FormTab w) (hz : usesB op rd rs1 rs2 imm csr = false ∨ (usesB op rd rs1 rs2 imm csr = true ∧ rs1 = 0 ∧ rs2 = 0)) :
    Calls Tryd.prog 22 #[.agg #[.int .i64 op, .int .i64 rd, .int .i64 rs1, .int .i64 rs2, .int .u32 imm, .int .i64 csr]] w fun e w' => ∃ a cap, e = .returned (.slice a 0 cap) ∧ Below w.heap.size w w' := by
  rcases hz with hz | ⟨hu, rfl, rfl⟩
  · exact (reads_no op rd rs1 rs2 imm csr w h0 h1 ht hz).mono fun e w' ⟨he, hb⟩ => ⟨none, 0, he, hb⟩
  · refine (reads_yes op rd 0 0 imm csr 0 0 w h0 h1 ht hu rfl rfl).mono ?_
    rintro e w' ⟨v, rfl, hown, hb⟩
    obtain ⟨_, h | h⟩ := hown
    · obtain ⟨rfl, _⟩ := h
      exact ⟨_, _, rfl, hb⟩
    · obtain ⟨g, c, _, hv, _⟩ := h
      exact ⟨some ⟨g, 0, none⟩, c, by rw [hv]; rfl, hb⟩

namespace instUses
set_option maxHeartbeats 1000000 in
theorem walk_wrong (op rd rs1 rs2 imm csr : Int) (w : World) (h0 : 0 ≤ imm) (h1 : imm < 4294967296) (TF : Hid (FormTab w)) (TN : Hid (NameTab w)) (hr : rightB op rd rs1 rs2 imm csr = false) :
    Calls Tryd.prog 7 #[.agg #[.int .i64 op, .int .i64 rd, .int .i64 rs1, .int .i64 rs2, .int .u32 imm, .int .i64 csr]] w fun e w' => e = .returned (.bool true) ∧ Below w.heap.size w w' := by
  have hu : usesB op rd rs1 rs2 imm csr = false := by simp [usesB, hr]
  go_enter Tryd.func7, Tryd.ntmps7
  go_wp2_with fail
  refine (reads_none op rd rs1 rs2 imm csr _ h0 h1 (TF.out.below ((Below.refl _ _).alloc (Nat.le_refl _) _)) (.inl hu)).mono ?_
  rintro e w1 ⟨a, cap, rfl, hb1⟩
  have HB1 : Hid (Below w.heap.size w w1) := ((Below.refl _ _).alloc (Nat.le_refl _) _).trans (hb1.mono (by simp))
  have p0 : World.cell? _ ⟨w.heap.size, 0, none⟩ = some (.int .i64 op) := cell_on hb1 (by simp)
  have p1 : World.cell? _ ⟨w.heap.size, 1, none⟩ = some (.int .i64 rd) := cell_on hb1 (by simp)
  have p2 : World.cell? _ ⟨w.heap.size, 2, none⟩ = some (.int .i64 rs1) := cell_on hb1 (by simp)
  have p3 : World.cell? _ ⟨w.heap.size, 3, none⟩ = some (.int .i64 rs2) := cell_on hb1 (by simp)
  have p4 : World.cell? _ ⟨w.heap.size, 4, none⟩ = some (.int .u32 imm) := cell_on hb1 (by simp)
  have p5 : World.cell? _ ⟨w.heap.size, 5, none⟩ = some (.int .i64 csr) := cell_on hb1 (by simp)
  clear hb1
  go_wp2_with fail
  refine (writes_any op rd rs1 rs2 imm csr _ h0 h1 (TF.out.below HB1.out)).mono ?_
  rintro e w2 ⟨rfl, hb2⟩
  have HB2 : Hid (Below w.heap.size w w2) := HB1.out.trans (hb2.mono HB1.out.size)
  have q0 : World.cell? _ ⟨w.heap.size, 0, none⟩ = some (.int .i64 op) := cell_on hb2 (p0)
  have q1 : World.cell? _ ⟨w.heap.size, 1, none⟩ = some (.int .i64 rd) := cell_on hb2 (p1)
  have q2 : World.cell? _ ⟨w.heap.size, 2, none⟩ = some (.int .i64 rs1) := cell_on hb2 (p2)
  have q3 : World.cell? _ ⟨w.heap.size, 3, none⟩ = some (.int .i64 rs2) := cell_on hb2 (p3)
  have q4 : World.cell? _ ⟨w.heap.size, 4, none⟩ = some (.int .u32 imm) := cell_on hb2 (p4)
  have q5 : World.cell? _ ⟨w.heap.size, 5, none⟩ = some (.int .i64 csr) := cell_on hb2 (p5)
  skip
  clear hb2 p0 p1 p2 p3 p4 p5
  rw [hu]
  go_wp2_with fail
  refine (rright2_any op rd rs1 rs2 imm csr _ h0 h1).mono ?_
  rintro e w3 ⟨rfl, hb3⟩
  have HB3 : Hid (Below w.heap.size w w3) := HB2.out.trans (hb3.mono HB2.out.size)
  have r0 : World.cell? _ ⟨w.heap.size, 0, none⟩ = some (.int .i64 op) := cell_on hb3 (q0)
  have r1 : World.cell? _ ⟨w.heap.size, 1, none⟩ = some (.int .i64 rd) := cell_on hb3 (q1)
  have r2 : World.cell? _ ⟨w.heap.size, 2, none⟩ = some (.int .i64 rs1) := cell_on hb3 (q2)
  have r3 : World.cell? _ ⟨w.heap.size, 3, none⟩ = some (.int .i64 rs2) := cell_on hb3 (q3)
  have r4 : World.cell? _ ⟨w.heap.size, 4, none⟩ = some (.int .u32 imm) := cell_on hb3 (q4)
  have r5 : World.cell? _ ⟨w.heap.size, 5, none⟩ = some (.int .i64 csr) := cell_on hb3 (q5)
  skip
  clear hb3 q0 q1 q2 q3 q4 q5
  go_wp2_with fail
  refine (iawake_any _ (TF.out.below HB3.out) (TN.out.below HB3.out)).mono ?_
  rintro e w4 ⟨rfl, hb⟩
  go_wp2
  go_ret
  exact ⟨rfl, HB3.out.trans (hb.mono HB3.out.size)⟩

set_option maxHeartbeats 1000000 in
theorem walk_38 (op rd rs1 rs2 imm csr : Int) (w : World) (h0 : 0 ≤ imm) (h1 : imm < 4294967296) (TF : Hid (FormTab w)) (TN : Hid (NameTab w)) (hr : rightB op rd rs1 rs2 imm csr = true) (ho : op = 38) :
    Calls Tryd.prog 7 #[.agg #[.int .i64 op, .int .i64 rd, .int .i64 rs1, .int .i64 rs2, .int .u32 imm, .int .i64 csr]] w fun e w' => e = .returned (.bool true) ∧ Below w.heap.size w w' := by
  have hu : usesB op rd rs1 rs2 imm csr = false := by simp [usesB, ho]
  have e38 : (op == 38) = true := by simp [ho]
  replace ho : Hid (op = 38) := ho
  go_enter Tryd.func7, Tryd.ntmps7
  go_wp2_with fail
  refine (reads_none op rd rs1 rs2 imm csr _ h0 h1 (TF.out.below ((Below.refl _ _).alloc (Nat.le_refl _) _)) (.inl hu)).mono ?_
  rintro e w1 ⟨a, cap, rfl, hb1⟩
  have HB1 : Hid (Below w.heap.size w w1) := ((Below.refl _ _).alloc (Nat.le_refl _) _).trans (hb1.mono (by simp))
  have p0 : World.cell? _ ⟨w.heap.size, 0, none⟩ = some (.int .i64 op) := cell_on hb1 (by simp)
  have p1 : World.cell? _ ⟨w.heap.size, 1, none⟩ = some (.int .i64 rd) := cell_on hb1 (by simp)
  have p2 : World.cell? _ ⟨w.heap.size, 2, none⟩ = some (.int .i64 rs1) := cell_on hb1 (by simp)
  have p3 : World.cell? _ ⟨w.heap.size, 3, none⟩ = some (.int .i64 rs2) := cell_on hb1 (by simp)
  have p4 : World.cell? _ ⟨w.heap.size, 4, none⟩ = some (.int .u32 imm) := cell_on hb1 (by simp)
  have p5 : World.cell? _ ⟨w.heap.size, 5, none⟩ = some (.int .i64 csr) := cell_on hb1 (by simp)
  clear hb1
  go_wp2_with fail
  refine (writes_any op rd rs1 rs2 imm csr _ h0 h1 (TF.out.below HB1.out)).mono ?_
  rintro e w2 ⟨rfl, hb2⟩
  have HB2 : Hid (Below w.heap.size w w2) := HB1.out.trans (hb2.mono HB1.out.size)
  have q0 : World.cell? _ ⟨w.heap.size, 0, none⟩ = some (.int .i64 op) := cell_on hb2 (p0)
  have q1 : World.cell? _ ⟨w.heap.size, 1, none⟩ = some (.int .i64 rd) := cell_on hb2 (p1)
  have q2 : World.cell? _ ⟨w.heap.size, 2, none⟩ = some (.int .i64 rs1) := cell_on hb2 (p2)
  have q3 : World.cell? _ ⟨w.heap.size, 3, none⟩ = some (.int .i64 rs2) := cell_on hb2 (p3)
  have q4 : World.cell? _ ⟨w.heap.size, 4, none⟩ = some (.int .u32 imm) := cell_on hb2 (p4)
  have q5 : World.cell? _ ⟨w.heap.size, 5, none⟩ = some (.int .i64 csr) := cell_on hb2 (p5)
  skip
  clear hb2 p0 p1 p2 p3 p4 p5
  rw [hu]
  go_wp2_with fail
  refine (rright2_any op rd rs1 rs2 imm csr _ h0 h1).mono ?_
  rintro e w3 ⟨rfl, hb3⟩
  have HB3 : Hid (Below w.heap.size w w3) := HB2.out.trans (hb3.mono HB2.out.size)
  have r0 : World.cell? _ ⟨w.heap.size, 0, none⟩ = some (.int .i64 op) := cell_on hb3 (q0)
  have r1 : World.cell? _ ⟨w.heap.size, 1, none⟩ = some (.int .i64 rd) := cell_on hb3 (q1)
  have r2 : World.cell? _ ⟨w.heap.size, 2, none⟩ = some (.int .i64 rs1) := cell_on hb3 (q2)
  have r3 : World.cell? _ ⟨w.heap.size, 3, none⟩ = some (.int .i64 rs2) := cell_on hb3 (q3)
  have r4 : World.cell? _ ⟨w.heap.size, 4, none⟩ = some (.int .u32 imm) := cell_on hb3 (q4)
  have r5 : World.cell? _ ⟨w.heap.size, 5, none⟩ = some (.int .i64 csr) := cell_on hb3 (q5)
  skip
  clear hb3 q0 q1 q2 q3 q4 q5
  have R0 : Hid (w3.cell? ⟨w.heap.size, 0, none⟩ = some (.int .i64 op)) := r0
  have R1 : Hid (w3.cell? ⟨w.heap.size, 1, none⟩ = some (.int .i64 rd)) := r1
  have R2 : Hid (w3.cell? ⟨w.heap.size, 2, none⟩ = some (.int .i64 rs1)) := r2
  have R3 : Hid (w3.cell? ⟨w.heap.size, 3, none⟩ = some (.int .i64 rs2)) := r3
  have R4 : Hid (w3.cell? ⟨w.heap.size, 4, none⟩ = some (.int .u32 imm)) := r4
  have R5 : Hid (w3.cell? ⟨w.heap.size, 5, none⟩ = some (.int .i64 csr)) := r5
  clear r0 r1 r2 r3 r4 r5
  go_wp2
  go_loopw [5, 6] (fun n i wr => ∃ k : Nat, 1 ≤ k ∧ k ≤ 32 ∧ i = .int .i64 k ∧ n = .int .i64 0 ∧ Below w3.heap.size w3 wr) (fun _ i _ => 32 - (intOf i).toNat)
  case atStart => exact ⟨1, by omega, by omega, rfl, rfl, Below.refl _ _⟩
  case round =>
    obtain ⟨k, hk1, hk2, rfl, rfl, hb⟩ := hrel
    have HB : Hid (Below w3.heap.size w3 wr) := hb
    have s0 := cell_on hb R0.out
    have s1 := cell_on hb R1.out
    have s2 := cell_on hb R2.out
    have s3 := cell_on hb R3.out
    have s4 := cell_on hb R4.out
    have s5 := cell_on hb R5.out
    clear hb
    by_cases hlt : k < 32
    · have hB : readB op rs1 rs2 k = false := by simp [readB, ho.out]
      go_wp2_with fail
      refine (rreads_any op rd rs1 rs2 imm csr k _).mono ?_
      rintro e w5 ⟨rfl, hb5⟩
      have HB5 : Hid (Below w3.heap.size w3 w5) := HB.out.trans (hb5.mono HB.out.size)
      clear hb5
      rw [hB]
      go_wp2
      go_roundw
      case rel => exact ⟨k + 1, by omega, by omega, by go_num, rfl, HB5.out⟩
      case measure => simp [intOf]; omega
    · obtain rfl : k = 32 := by omega
      have HB5 : Hid (Below w.heap.size w wr) := HB3.out.trans (HB.out.mono HB3.out.size)
      go_wp2_with fail
      refine (iawake_any _ (TF.out.below HB5.out) (TN.out.below HB5.out)).mono ?_
      rintro e w6 ⟨rfl, hb6⟩
      go_wp2
      go_ret
      exact ⟨rfl, HB5.out.trans (hb6.mono HB5.out.size)⟩

set_option maxHeartbeats 1000000 in
theorem walk_39 (op rd rs1 rs2 imm csr : Int) (w : World) (h0 : 0 ≤ imm) (h1 : imm < 4294967296) (TF : Hid (FormTab w)) (TN : Hid (NameTab w)) (hr : rightB op rd rs1 rs2 imm csr = true) (ho : op = 39) :
    Calls Tryd.prog 7 #[.agg #[.int .i64 op, .int .i64 rd, .int .i64 rs1, .int .i64 rs2, .int .u32 imm, .int .i64 csr]] w fun e w' => e = .returned (.bool true) ∧ Below w.heap.size w w' := by
  have hu : usesB op rd rs1 rs2 imm csr = false := by simp [usesB, ho]
  have e38 : (op == 38) = false := by simp [ho]
  have e39 : (op == 39) = true := by simp [ho]
  replace ho : Hid (op = 39) := ho
  go_enter Tryd.func7, Tryd.ntmps7
  go_wp2_with fail
  refine (reads_none op rd rs1 rs2 imm csr _ h0 h1 (TF.out.below ((Below.refl _ _).alloc (Nat.le_refl _) _)) (.inl hu)).mono ?_
  rintro e w1 ⟨a, cap, rfl, hb1⟩
  have HB1 : Hid (Below w.heap.size w w1) := ((Below.refl _ _).alloc (Nat.le_refl _) _).trans (hb1.mono (by simp))
  have p0 : World.cell? _ ⟨w.heap.size, 0, none⟩ = some (.int .i64 op) := cell_on hb1 (by simp)
  have p1 : World.cell? _ ⟨w.heap.size, 1, none⟩ = some (.int .i64 rd) := cell_on hb1 (by simp)
  have p2 : World.cell? _ ⟨w.heap.size, 2, none⟩ = some (.int .i64 rs1) := cell_on hb1 (by simp)
  have p3 : World.cell? _ ⟨w.heap.size, 3, none⟩ = some (.int .i64 rs2) := cell_on hb1 (by simp)
  have p4 : World.cell? _ ⟨w.heap.size, 4, none⟩ = some (.int .u32 imm) := cell_on hb1 (by simp)
  have p5 : World.cell? _ ⟨w.heap.size, 5, none⟩ = some (.int .i64 csr) := cell_on hb1 (by simp)
  clear hb1
  go_wp2_with fail
  refine (writes_any op rd rs1 rs2 imm csr _ h0 h1 (TF.out.below HB1.out)).mono ?_
  rintro e w2 ⟨rfl, hb2⟩
  have HB2 : Hid (Below w.heap.size w w2) := HB1.out.trans (hb2.mono HB1.out.size)
  have q0 : World.cell? _ ⟨w.heap.size, 0, none⟩ = some (.int .i64 op) := cell_on hb2 (p0)
  have q1 : World.cell? _ ⟨w.heap.size, 1, none⟩ = some (.int .i64 rd) := cell_on hb2 (p1)
  have q2 : World.cell? _ ⟨w.heap.size, 2, none⟩ = some (.int .i64 rs1) := cell_on hb2 (p2)
  have q3 : World.cell? _ ⟨w.heap.size, 3, none⟩ = some (.int .i64 rs2) := cell_on hb2 (p3)
  have q4 : World.cell? _ ⟨w.heap.size, 4, none⟩ = some (.int .u32 imm) := cell_on hb2 (p4)
  have q5 : World.cell? _ ⟨w.heap.size, 5, none⟩ = some (.int .i64 csr) := cell_on hb2 (p5)
  skip
  clear hb2 p0 p1 p2 p3 p4 p5
  rw [hu]
  go_wp2_with fail
  refine (rright2_any op rd rs1 rs2 imm csr _ h0 h1).mono ?_
  rintro e w3 ⟨rfl, hb3⟩
  have HB3 : Hid (Below w.heap.size w w3) := HB2.out.trans (hb3.mono HB2.out.size)
  have r0 : World.cell? _ ⟨w.heap.size, 0, none⟩ = some (.int .i64 op) := cell_on hb3 (q0)
  have r1 : World.cell? _ ⟨w.heap.size, 1, none⟩ = some (.int .i64 rd) := cell_on hb3 (q1)
  have r2 : World.cell? _ ⟨w.heap.size, 2, none⟩ = some (.int .i64 rs1) := cell_on hb3 (q2)
  have r3 : World.cell? _ ⟨w.heap.size, 3, none⟩ = some (.int .i64 rs2) := cell_on hb3 (q3)
  have r4 : World.cell? _ ⟨w.heap.size, 4, none⟩ = some (.int .u32 imm) := cell_on hb3 (q4)
  have r5 : World.cell? _ ⟨w.heap.size, 5, none⟩ = some (.int .i64 csr) := cell_on hb3 (q5)
  skip
  clear hb3 q0 q1 q2 q3 q4 q5
  have R0 : Hid (w3.cell? ⟨w.heap.size, 0, none⟩ = some (.int .i64 op)) := r0
  have R1 : Hid (w3.cell? ⟨w.heap.size, 1, none⟩ = some (.int .i64 rd)) := r1
  have R2 : Hid (w3.cell? ⟨w.heap.size, 2, none⟩ = some (.int .i64 rs1)) := r2
  have R3 : Hid (w3.cell? ⟨w.heap.size, 3, none⟩ = some (.int .i64 rs2)) := r3
  have R4 : Hid (w3.cell? ⟨w.heap.size, 4, none⟩ = some (.int .u32 imm)) := r4
  have R5 : Hid (w3.cell? ⟨w.heap.size, 5, none⟩ = some (.int .i64 csr)) := r5
  clear r0 r1 r2 r3 r4 r5
  go_wp2
  go_loopw [5, 6] (fun n i wr => ∃ k : Nat, 1 ≤ k ∧ k ≤ 32 ∧ i = .int .i64 k ∧ n = .int .i64 0 ∧ Below w3.heap.size w3 wr) (fun _ i _ => 32 - (intOf i).toNat)
  case atStart => exact ⟨1, by omega, by omega, rfl, rfl, Below.refl _ _⟩
  case round =>
    obtain ⟨k, hk1, hk2, rfl, rfl, hb⟩ := hrel
    have HB : Hid (Below w3.heap.size w3 wr) := hb
    have s0 := cell_on hb R0.out
    have s1 := cell_on hb R1.out
    have s2 := cell_on hb R2.out
    have s3 := cell_on hb R3.out
    have s4 := cell_on hb R4.out
    have s5 := cell_on hb R5.out
    clear hb
    by_cases hlt : k < 32
    · have hB : readB op rs1 rs2 k = false := by simp [readB, ho.out]
      go_wp2_with fail
      refine (rreads_any op rd rs1 rs2 imm csr k _).mono ?_
      rintro e w5 ⟨rfl, hb5⟩
      have HB5 : Hid (Below w3.heap.size w3 w5) := HB.out.trans (hb5.mono HB.out.size)
      clear hb5
      rw [hB]
      go_wp2
      go_roundw
      case rel => exact ⟨k + 1, by omega, by omega, by go_num, rfl, HB5.out⟩
      case measure => simp [intOf]; omega
    · obtain rfl : k = 32 := by omega
      have HB5 : Hid (Below w.heap.size w wr) := HB3.out.trans (HB.out.mono HB3.out.size)
      go_wp2_with fail
      refine (iawake_any _ (TF.out.below HB5.out) (TN.out.below HB5.out)).mono ?_
      rintro e w6 ⟨rfl, hb6⟩
      go_wp2
      go_ret
      exact ⟨rfl, HB5.out.trans (hb6.mono HB5.out.size)⟩

set_option maxHeartbeats 1000000 in
theorem walk_zero (op rd rs1 rs2 imm csr : Int) (w : World) (h0 : 0 ≤ imm) (h1 : imm < 4294967296) (TF : Hid (FormTab w)) (TN : Hid (NameTab w)) (hr : rightB op rd rs1 rs2 imm csr = true) (n1 : op ≠ 38) (n2 : op ≠ 39) (z1 : rs1 = 0) (z2 : rs2 = 0) :
    Calls Tryd.prog 7 #[.agg #[.int .i64 op, .int .i64 rd, .int .i64 rs1, .int .i64 rs2, .int .u32 imm, .int .i64 csr]] w fun e w' => e = .returned (.bool true) ∧ Below w.heap.size w w' := by
  have hu : usesB op rd rs1 rs2 imm csr = true := by simp [usesB, n1, n2, hr]
  have e38 : (op == 38) = false := neb n1
  have e39 : (op == 39) = false := neb n2
  have Z1 : Hid (rs1 = 0) := z1
  have Z2 : Hid (rs2 = 0) := z2
  clear z1 z2 n1 n2
  go_enter Tryd.func7, Tryd.ntmps7
  go_wp2_with fail
  refine (reads_none op rd rs1 rs2 imm csr _ h0 h1 (TF.out.below ((Below.refl _ _).alloc (Nat.le_refl _) _)) (.inr ⟨hu, Z1.out, Z2.out⟩)).mono ?_
  rintro e w1 ⟨a, cap, rfl, hb1⟩
  have HB1 : Hid (Below w.heap.size w w1) := ((Below.refl _ _).alloc (Nat.le_refl _) _).trans (hb1.mono (by simp))
  have p0 : World.cell? _ ⟨w.heap.size, 0, none⟩ = some (.int .i64 op) := cell_on hb1 (by simp)
  have p1 : World.cell? _ ⟨w.heap.size, 1, none⟩ = some (.int .i64 rd) := cell_on hb1 (by simp)
  have p2 : World.cell? _ ⟨w.heap.size, 2, none⟩ = some (.int .i64 rs1) := cell_on hb1 (by simp)
  have p3 : World.cell? _ ⟨w.heap.size, 3, none⟩ = some (.int .i64 rs2) := cell_on hb1 (by simp)
  have p4 : World.cell? _ ⟨w.heap.size, 4, none⟩ = some (.int .u32 imm) := cell_on hb1 (by simp)
  have p5 : World.cell? _ ⟨w.heap.size, 5, none⟩ = some (.int .i64 csr) := cell_on hb1 (by simp)
  clear hb1
  go_wp2_with fail
  refine (writes_any op rd rs1 rs2 imm csr _ h0 h1 (TF.out.below HB1.out)).mono ?_
  rintro e w2 ⟨rfl, hb2⟩
  have HB2 : Hid (Below w.heap.size w w2) := HB1.out.trans (hb2.mono HB1.out.size)
  have q0 : World.cell? _ ⟨w.heap.size, 0, none⟩ = some (.int .i64 op) := cell_on hb2 (p0)
  have q1 : World.cell? _ ⟨w.heap.size, 1, none⟩ = some (.int .i64 rd) := cell_on hb2 (p1)
  have q2 : World.cell? _ ⟨w.heap.size, 2, none⟩ = some (.int .i64 rs1) := cell_on hb2 (p2)
  have q3 : World.cell? _ ⟨w.heap.size, 3, none⟩ = some (.int .i64 rs2) := cell_on hb2 (p3)
  have q4 : World.cell? _ ⟨w.heap.size, 4, none⟩ = some (.int .u32 imm) := cell_on hb2 (p4)
  have q5 : World.cell? _ ⟨w.heap.size, 5, none⟩ = some (.int .i64 csr) := cell_on hb2 (p5)
  skip
  clear hb2 p0 p1 p2 p3 p4 p5
  rw [hu]
  go_wp2_with fail
  refine (rright2_any op rd rs1 rs2 imm csr _ h0 h1).mono ?_
  rintro e w3 ⟨rfl, hb3⟩
  have HB3 : Hid (Below w.heap.size w w3) := HB2.out.trans (hb3.mono HB2.out.size)
  have r0 : World.cell? _ ⟨w.heap.size, 0, none⟩ = some (.int .i64 op) := cell_on hb3 (q0)
  have r1 : World.cell? _ ⟨w.heap.size, 1, none⟩ = some (.int .i64 rd) := cell_on hb3 (q1)
  have r2 : World.cell? _ ⟨w.heap.size, 2, none⟩ = some (.int .i64 rs1) := cell_on hb3 (q2)
  have r3 : World.cell? _ ⟨w.heap.size, 3, none⟩ = some (.int .i64 rs2) := cell_on hb3 (q3)
  have r4 : World.cell? _ ⟨w.heap.size, 4, none⟩ = some (.int .u32 imm) := cell_on hb3 (q4)
  have r5 : World.cell? _ ⟨w.heap.size, 5, none⟩ = some (.int .i64 csr) := cell_on hb3 (q5)
  skip
  clear hb3 q0 q1 q2 q3 q4 q5
  have R0 : Hid (w3.cell? ⟨w.heap.size, 0, none⟩ = some (.int .i64 op)) := r0
  have R1 : Hid (w3.cell? ⟨w.heap.size, 1, none⟩ = some (.int .i64 rd)) := r1
  have R2 : Hid (w3.cell? ⟨w.heap.size, 2, none⟩ = some (.int .i64 rs1)) := r2
  have R3 : Hid (w3.cell? ⟨w.heap.size, 3, none⟩ = some (.int .i64 rs2)) := r3
  have R4 : Hid (w3.cell? ⟨w.heap.size, 4, none⟩ = some (.int .u32 imm)) := r4
  have R5 : Hid (w3.cell? ⟨w.heap.size, 5, none⟩ = some (.int .i64 csr)) := r5
  clear r0 r1 r2 r3 r4 r5
  go_wp2
  go_loopw [5, 6] (fun n i wr => ∃ k : Nat, 1 ≤ k ∧ k ≤ 32 ∧ i = .int .i64 k ∧ n = .int .i64 0 ∧ Below w3.heap.size w3 wr) (fun _ i _ => 32 - (intOf i).toNat)
  case atStart => exact ⟨1, by omega, by omega, rfl, rfl, Below.refl _ _⟩
  case round =>
    obtain ⟨k, hk1, hk2, rfl, rfl, hb⟩ := hrel
    have HB : Hid (Below w3.heap.size w3 wr) := hb
    have s0 := cell_on hb R0.out
    have s1 := cell_on hb R1.out
    have s2 := cell_on hb R2.out
    have s3 := cell_on hb R3.out
    have s4 := cell_on hb R4.out
    have s5 := cell_on hb R5.out
    clear hb
    by_cases hlt : k < 32
    · have hB : readB op rs1 rs2 k = false := by have a := Z1.out; have b := Z2.out; subst a; subst b; simp [readB]; omega
      go_wp2_with fail
      refine (rreads_any op rd rs1 rs2 imm csr k _).mono ?_
      rintro e w5 ⟨rfl, hb5⟩
      have HB5 : Hid (Below w3.heap.size w3 w5) := HB.out.trans (hb5.mono HB.out.size)
      clear hb5
      rw [hB]
      go_wp2
      go_roundw
      case rel => exact ⟨k + 1, by omega, by omega, by go_num, rfl, HB5.out⟩
      case measure => simp [intOf]; omega
    · obtain rfl : k = 32 := by omega
      have HB5 : Hid (Below w.heap.size w wr) := HB3.out.trans (HB.out.mono HB3.out.size)
      go_wp2_with fail
      refine (iawake_any _ (TF.out.below HB5.out) (TN.out.below HB5.out)).mono ?_
      rintro e w6 ⟨rfl, hb6⟩
      go_wp2
      go_ret
      exact ⟨rfl, HB5.out.trans (hb6.mono HB5.out.size)⟩

set_option maxHeartbeats 1000000 in
theorem walk_some (op rd rs1 rs2 imm csr lo hi : Int) (w : World) (h0 : 0 ≤ imm) (h1 : imm < 4294967296) (TF : Hid (FormTab w)) (TN : Hid (NameTab w)) (hr : rightB op rd rs1 rs2 imm csr = true) (n1 : op ≠ 38) (n2 : op ≠ 39)
    (hl : (if rs2 < rs1 then rs2 else rs1) = lo) (hh : (if rs1 < rs2 then rs2 else rs1) = hi) (l0 : 0 ≤ lo) (l1 : lo ≤ hi) (l2 : hi ≤ 31) (hm : ∀ k : Int, (rs1 = k ∨ rs2 = k) ↔ (lo = k ∨ hi = k)) (hp : 0 < (readsL lo hi).length) :
    Calls Tryd.prog 7 #[.agg #[.int .i64 op, .int .i64 rd, .int .i64 rs1, .int .i64 rs2, .int .u32 imm, .int .i64 csr]] w fun e w' => e = .returned (.bool true) ∧ Below w.heap.size w w' := by
  have hu : usesB op rd rs1 rs2 imm csr = true := by simp [usesB, n1, n2, hr]
  have e38 : (op == 38) = false := neb n1
  have e39 : (op == 39) = false := neb n2
  have HL : Hid ((if rs2 < rs1 then rs2 else rs1) = lo ∧ (if rs1 < rs2 then rs2 else rs1) = hi) := ⟨hl, hh⟩
  have HM : Hid (∀ k : Int, (rs1 = k ∨ rs2 = k) ↔ (lo = k ∨ hi = k)) := hm
  have N12 : Hid (op ≠ 38 ∧ op ≠ 39) := ⟨n1, n2⟩
  have c0 := cnt_one lo hi l0 l1
  have HE : Hid (cnt lo hi 32 = (readsL lo hi).length) := cnt_end lo hi l0 l1 l2
  have hlen : (readsL lo hi).length ≤ 2 := by unfold readsL; split <;> split <;> simp
  clear hl hh hm n1 n2
  go_enter Tryd.func7, Tryd.ntmps7
  go_wp2_with fail
  refine (reads_yes op rd rs1 rs2 imm csr lo hi _ h0 h1 (TF.out.below ((Below.refl _ _).alloc (Nat.le_refl _) _)) hu HL.out.1 HL.out.2).mono ?_
  rintro e w1 ⟨v, rfl, hown, hb1⟩
  obtain ⟨g, cap, rfl⟩ := owned_some hown hp
  have HC1 : Hid (∀ i, i < (readsL lo hi).length → w1.cell? ⟨g, i, none⟩ = some (.int .i64 ((readsL lo hi).getD i 0))) := by
    intro i hi
    rw [hown.cellAt i (by omega)]
    simp [List.getD, hi]
  clear hown
  have HB1 : Hid (Below w.heap.size w w1) := ((Below.refl _ _).alloc (Nat.le_refl _) _).trans (hb1.mono (by simp))
  have p0 : World.cell? _ ⟨w.heap.size, 0, none⟩ = some (.int .i64 op) := cell_on hb1 (by simp)
  have p1 : World.cell? _ ⟨w.heap.size, 1, none⟩ = some (.int .i64 rd) := cell_on hb1 (by simp)
  have p2 : World.cell? _ ⟨w.heap.size, 2, none⟩ = some (.int .i64 rs1) := cell_on hb1 (by simp)
  have p3 : World.cell? _ ⟨w.heap.size, 3, none⟩ = some (.int .i64 rs2) := cell_on hb1 (by simp)
  have p4 : World.cell? _ ⟨w.heap.size, 4, none⟩ = some (.int .u32 imm) := cell_on hb1 (by simp)
  have p5 : World.cell? _ ⟨w.heap.size, 5, none⟩ = some (.int .i64 csr) := cell_on hb1 (by simp)
  clear hb1
  go_wp2_with fail
  refine (writes_any op rd rs1 rs2 imm csr _ h0 h1 (TF.out.below HB1.out)).mono ?_
  rintro e w2 ⟨rfl, hb2⟩
  have HB2 : Hid (Below w.heap.size w w2) := HB1.out.trans (hb2.mono HB1.out.size)
  have q0 : World.cell? _ ⟨w.heap.size, 0, none⟩ = some (.int .i64 op) := cell_on hb2 (p0)
  have q1 : World.cell? _ ⟨w.heap.size, 1, none⟩ = some (.int .i64 rd) := cell_on hb2 (p1)
  have q2 : World.cell? _ ⟨w.heap.size, 2, none⟩ = some (.int .i64 rs1) := cell_on hb2 (p2)
  have q3 : World.cell? _ ⟨w.heap.size, 3, none⟩ = some (.int .i64 rs2) := cell_on hb2 (p3)
  have q4 : World.cell? _ ⟨w.heap.size, 4, none⟩ = some (.int .u32 imm) := cell_on hb2 (p4)
  have q5 : World.cell? _ ⟨w.heap.size, 5, none⟩ = some (.int .i64 csr) := cell_on hb2 (p5)
  have HC2 : Hid (∀ i, i < (readsL lo hi).length → w2.cell? ⟨g, i, none⟩ = some (.int .i64 ((readsL lo hi).getD i 0))) := fun i hi => cell_on hb2 (HC1.out i hi)
  clear hb2 p0 p1 p2 p3 p4 p5
  rw [hu]
  go_wp2_with fail
  refine (rright2_any op rd rs1 rs2 imm csr _ h0 h1).mono ?_
  rintro e w3 ⟨rfl, hb3⟩
  have HB3 : Hid (Below w.heap.size w w3) := HB2.out.trans (hb3.mono HB2.out.size)
  have r0 : World.cell? _ ⟨w.heap.size, 0, none⟩ = some (.int .i64 op) := cell_on hb3 (q0)
  have r1 : World.cell? _ ⟨w.heap.size, 1, none⟩ = some (.int .i64 rd) := cell_on hb3 (q1)
  have r2 : World.cell? _ ⟨w.heap.size, 2, none⟩ = some (.int .i64 rs1) := cell_on hb3 (q2)
  have r3 : World.cell? _ ⟨w.heap.size, 3, none⟩ = some (.int .i64 rs2) := cell_on hb3 (q3)
  have r4 : World.cell? _ ⟨w.heap.size, 4, none⟩ = some (.int .u32 imm) := cell_on hb3 (q4)
  have r5 : World.cell? _ ⟨w.heap.size, 5, none⟩ = some (.int .i64 csr) := cell_on hb3 (q5)
  have HC3 : Hid (∀ i, i < (readsL lo hi).length → w3.cell? ⟨g, i, none⟩ = some (.int .i64 ((readsL lo hi).getD i 0))) := fun i hi => cell_on hb3 (HC2.out i hi)
  clear hb3 q0 q1 q2 q3 q4 q5
  have R0 : Hid (w3.cell? ⟨w.heap.size, 0, none⟩ = some (.int .i64 op)) := r0
  have R1 : Hid (w3.cell? ⟨w.heap.size, 1, none⟩ = some (.int .i64 rd)) := r1
  have R2 : Hid (w3.cell? ⟨w.heap.size, 2, none⟩ = some (.int .i64 rs1)) := r2
  have R3 : Hid (w3.cell? ⟨w.heap.size, 3, none⟩ = some (.int .i64 rs2)) := r3
  have R4 : Hid (w3.cell? ⟨w.heap.size, 4, none⟩ = some (.int .u32 imm)) := r4
  have R5 : Hid (w3.cell? ⟨w.heap.size, 5, none⟩ = some (.int .i64 csr)) := r5
  clear r0 r1 r2 r3 r4 r5
  go_wp2
  go_loopw [5, 6] (fun n i wr => ∃ k : Nat, 1 ≤ k ∧ k ≤ 32 ∧ i = .int .i64 k ∧ n = .int .i64 (cnt lo hi k) ∧ Below w3.heap.size w3 wr) (fun _ i _ => 32 - (intOf i).toNat)
  case atStart => exact ⟨1, by omega, by omega, rfl, by rw [c0]; rfl, Below.refl _ _⟩
  case round =>
    obtain ⟨k, hk1, hk2, rfl, rfl, hb⟩ := hrel
    have HB : Hid (Below w3.heap.size w3 wr) := hb
    have s0 := cell_on hb R0.out
    have s1 := cell_on hb R1.out
    have s2 := cell_on hb R2.out
    have s3 := cell_on hb R3.out
    have s4 := cell_on hb R4.out
    have s5 := cell_on hb R5.out
    clear hb
    by_cases hlt : k < 32
    · cases hB : readB op rs1 rs2 k with
      | true =>
        have hx : lo = k ∨ hi = k := (HM.out k).1 (show ¬ k = 0 ∧ (rs1 = k ∨ rs2 = k) from by simpa [readB, N12.out.1, N12.out.2] using hB).2
        obtain ⟨y1, y2, y3⟩ := cnt_yes lo hi k hk1 l0 l1 hx
        go_wp2_with fail
        refine (rreads_any op rd rs1 rs2 imm csr k _).mono ?_
        rintro e w5 ⟨rfl, hb5⟩
        have HB5 : Hid (Below w3.heap.size w3 w5) := HB.out.trans (hb5.mono HB.out.size)
        have g1 : w5.cell? ⟨g, cnt lo hi k, none⟩ = some (.int .i64 k) := by
          rw [cell_on HB5.out (HC3.out _ y2), y3]
        clear hb5
        rw [hB]
        have Y1 : Hid (cnt lo hi (k + 1) = cnt lo hi k + 1) := y1
        clear y1 y3 hx
        go_wp2
        go_roundw
        case rel => exact ⟨k + 1, by omega, by omega, by go_num, by rw [Y1.out]; go_num, HB5.out⟩
        case measure => simp [intOf]; omega
      | false =>
        have hx : ¬ (lo = k ∨ hi = k) := fun h => by
          have := (HM.out k).2 h
          simp [readB, N12.out.1, N12.out.2] at hB
          omega
        have Y1 : Hid (cnt lo hi (k + 1) = cnt lo hi k) := cnt_no lo hi k hk1 hx
        clear hx
        go_wp2_with fail
        refine (rreads_any op rd rs1 rs2 imm csr k _).mono ?_
        rintro e w5 ⟨rfl, hb5⟩
        have HB5 : Hid (Below w3.heap.size w3 w5) := HB.out.trans (hb5.mono HB.out.size)
        clear hb5
        rw [hB]
        go_wp2
        go_roundw
        case rel => exact ⟨k + 1, by omega, by omega, by go_num, by rw [Y1.out], HB5.out⟩
        case measure => simp [intOf]; omega
    · obtain rfl : k = 32 := by omega
      have HB5 : Hid (Below w.heap.size w wr) := HB3.out.trans (HB.out.mono HB3.out.size)
      rw [HE.out]
      go_wp2_with fail
      refine (iawake_any _ (TF.out.below HB5.out) (TN.out.below HB5.out)).mono ?_
      rintro e w6 ⟨rfl, hb6⟩
      go_wp2
      go_ret
      exact ⟨rfl, HB5.out.trans (hb6.mono HB5.out.size)⟩

theorem walk (op rd rs1 rs2 imm csr : Int) (w : World) (w0 : (Lit.int .i64 op).wf = true) (w1 : (Lit.int .i64 rd).wf = true) (w2 : (Lit.int .i64 rs1).wf = true) (w3 : (Lit.int .i64 rs2).wf = true) (w4 : (Lit.int .u32 imm).wf = true) (w5 : (Lit.int .i64 csr).wf = true) (tf : FormTab w) (tn : NameTab w) :
    Calls Tryd.prog 7 #[.agg #[.int .i64 op, .int .i64 rd, .int .i64 rs1, .int .i64 rs2, .int .u32 imm, .int .i64 csr]] w fun e w' => e = .returned (.bool true) ∧ Below w.heap.size w w' := by
  have hi := bounds_u32 w4
  have hi' : imm < 4294967296 := by omega
  cases hr : rightB op rd rs1 rs2 imm csr with
  | false => exact walk_wrong op rd rs1 rs2 imm csr w hi.1 hi' tf tn hr
  | true =>
    by_cases n1 : op = 38
    · exact walk_38 op rd rs1 rs2 imm csr w hi.1 hi' tf tn hr n1
    · by_cases n2 : op = 39
      · exact walk_39 op rd rs1 rs2 imm csr w hi.1 hi' tf tn hr n2
      · obtain ⟨b1, b2⟩ := right_bd hr
        by_cases hz : rs1 = 0 ∧ rs2 = 0
        · exact walk_zero op rd rs1 rs2 imm csr w hi.1 hi' tf tn hr n1 n2 hz.1 hz.2
        · refine walk_some op rd rs1 rs2 imm csr _ _ w hi.1 hi' tf tn hr n1 n2 rfl rfl ?_ ?_ ?_ ?_ ?_
          · split <;> omega
          · split <;> split <;> omega
          · split <;> omega
          · intro k; split <;> split <;> omega
          · exact readsL_pos _ _ (by split <;> split <;> omega)
end instUses
end Go.Proofs.YtokbdajdfmgdiaaDoor
