/- Layer 5: the text of a right instruction (rightText). -/
import Derived.Test.YtakomdopeadcjaaDoorDisLine
import Derived.Test.YtakomdopeadcjaaDoorDisSpec
import Derived.Test.YtakomdopeadcjaaDoorDisText
import Derived.Deep.RegionHeld3
namespace Go.Proofs.YtakomdopeadcjaaDoor
open Go.RowKit Go.Sort
set_option linter.unusedVariables false

theorem below_step {w V w1 : World} (h : Hid (Below w.heap.size w V)) (hb : Below V.heap.size V w1) : Hid (Below w.heap.size w w1) := h.out.trans (hb.mono h.out.size)
theorem six_step {V w1 : World} {B : Nat} {a b c d e f : Int} (h : Hid (SixT V B a b c d e f)) (hb : Below V.heap.size V w1) : Hid (SixT w1 B a b c d e f) := SixT.on h.out hb
def IsInt (n : Int) : Prop := -9223372036854775808 ≤ n ∧ n < 9223372036854775808
theorem isInt_of {n : Int} (h0 : -9223372036854775808 ≤ n) (h1 : n < 9223372036854775808) : IsInt n := ⟨h0, h1⟩

theorem name_bsk (k : Nat) (hk : k < 58) (w : World) (ht : NameTab w) :
    Calls Tryd.prog 40 #[.int .i64 k] w fun e w' => e = .returned (.tuple #[.string (bs (nameL.getD k [])), .int .i64 0]) ∧ w' = w := name_yes k hk w ht
theorem below_al {w V w1 : World} {o : Obj} (h : Hid (Below w.heap.size w V)) (hb : Below (V.alloc o).heap.size (V.alloc o) w1) : Below w.heap.size w w1 :=
  (h.out.trans ((Below.refl _ _).alloc h.out.size _)).trans (hb.mono (by have := h.out.size; simp; omega))
theorem num_lens (n : Int) : (numL n).length ≤ 100 ∧ (120 :: numL n).length ≤ 100 := by
  have := numL_len n; simp; omega
theorem num_lens5 (n : Int) : (numL n).length ≤ 50 ∧ (120 :: numL n).length ≤ 50 := by
  have := numL_len n; simp; omega
theorem addr_len (a b : Int) : (numL a ++ 40 :: ((120 :: numL b) ++ [41])).length ≤ 100 := by
  have := numL_len a; have := numL_len b; simp; omega

theorem tx_0 (k : Nat) (rd rs1 rs2 imm csr : Int) (hz : formZ k = 0) : nameL.getD k [] = textL k rd rs1 rs2 imm csr := by
  unfold textL restL
  rw [hz]; simp
theorem tx_1 (k : Nat) (rd rs1 rs2 imm csr : Int) (hz : formZ k = 1) : nameL.getD k [] ++ 32 :: ((120 :: numL rd) ++ 44 :: 32 :: numL (imm / 4096)) = textL k rd rs1 rs2 imm csr := by
  unfold textL restL
  rw [hz]; simp
theorem tx_2 (k : Nat) (rd rs1 rs2 imm csr : Int) (hz : formZ k = 2) : nameL.getD k [] ++ 32 :: ((120 :: numL rd) ++ 44 :: 32 :: numL (signedOf imm)) = textL k rd rs1 rs2 imm csr := by
  unfold textL restL
  rw [hz]; simp
theorem tx_3a (k : Nat) (rd rs1 rs2 imm csr : Int) (hz : formZ k = 3) (h : k ≤ 15) : nameL.getD k [] ++ 32 :: ((120 :: numL rd) ++ 44 :: 32 :: (numL (signedOf imm) ++ 40 :: ((120 :: numL rs1) ++ [41]))) = textL k rd rs1 rs2 imm csr := by
  unfold textL restL
  rw [hz]; simp [h]
theorem tx_3b (k : Nat) (rd rs1 rs2 imm csr : Int) (hz : formZ k = 3) (h : ¬ k ≤ 15) : nameL.getD k [] ++ 32 :: ((120 :: numL rd) ++ 44 :: 32 :: ((120 :: numL rs1) ++ 44 :: 32 :: numL (signedOf imm))) = textL k rd rs1 rs2 imm csr := by
  unfold textL restL
  rw [hz]; simp [h]
theorem tx_4 (k : Nat) (rd rs1 rs2 imm csr : Int) (hz : formZ k = 4) : nameL.getD k [] ++ 32 :: ((120 :: numL rs1) ++ 44 :: 32 :: ((120 :: numL rs2) ++ 44 :: 32 :: numL (signedOf imm))) = textL k rd rs1 rs2 imm csr := by
  unfold textL restL
  rw [hz]; simp
theorem tx_5 (k : Nat) (rd rs1 rs2 imm csr : Int) (hz : formZ k = 5) : nameL.getD k [] ++ 32 :: ((120 :: numL rs2) ++ 44 :: 32 :: (numL (signedOf imm) ++ 40 :: ((120 :: numL rs1) ++ [41]))) = textL k rd rs1 rs2 imm csr := by
  unfold textL restL
  rw [hz]; simp
theorem tx_6 (k : Nat) (rd rs1 rs2 imm csr : Int) (hz : formZ k = 6) : nameL.getD k [] ++ 32 :: ((120 :: numL rd) ++ 44 :: 32 :: ((120 :: numL rs1) ++ 44 :: 32 :: (120 :: numL rs2))) = textL k rd rs1 rs2 imm csr := by
  unfold textL restL
  rw [hz]; simp
theorem tx_7 (k : Nat) (rd rs1 rs2 imm csr : Int) (hz : formZ k = 7) : nameL.getD k [] ++ 32 :: ((120 :: numL rd) ++ 44 :: 32 :: ((120 :: numL rs1) ++ 44 :: 32 :: numL (signedOf imm))) = textL k rd rs1 rs2 imm csr := by
  unfold textL restL
  rw [hz]; simp
theorem tx_8 (k : Nat) (rd rs1 rs2 imm csr : Int) (hz : formZ k = 8) : nameL.getD k [] ++ 32 :: ((120 :: numL rd) ++ 44 :: 32 :: (numL csr ++ 44 :: 32 :: (120 :: numL rs1))) = textL k rd rs1 rs2 imm csr := by
  unfold textL restL
  rw [hz]; simp
theorem tx_9 (k : Nat) (rd rs1 rs2 imm csr : Int) (hz : formZ k = 9) : nameL.getD k [] ++ 32 :: ((120 :: numL rd) ++ 44 :: 32 :: (numL csr ++ 44 :: 32 :: numL (signedOf imm))) = textL k rd rs1 rs2 imm csr := by
  unfold textL restL
  rw [hz]; simp

set_option maxRecDepth 100000 in
set_option maxHeartbeats 8000000 in
theorem rightText_any (k : Nat) (rd rs1 rs2 imm csr : Int) (w : World) (hk : k < 58) (hk0 : k ≠ 0) (i0 : 0 ≤ imm) (i1 : imm < 4294967296) (tf : FormTab w) (tn : NameTab w) (tp : PowTab w) (hr : rightOf (formZ k) rd rs1 rs2 imm csr = true) :
    Calls Tryd.prog 20 #[.agg #[.int .i64 k, .int .i64 rd, .int .i64 rs1, .int .i64 rs2, .int .u32 imm, .int .i64 csr]] w fun e w' => e = .returned (.string (bs (textL k rd rs1 rs2 imm csr))) ∧ Below w.heap.size w w' := by
  have HF : Hid (FormTab w) := tf
  have HN : Hid (NameTab w) := tn
  have HK : Hid (PowTab w) := tp
  have HI0 : Hid (0 ≤ imm) := i0
  have HI1 : Hid (imm < 4294967296) := i1
  have HKL : Hid (k < 58) := hk
  obtain ⟨⟨a0, a1⟩, ⟨b0, b1⟩, ⟨d0, d1⟩, ⟨e0, e1⟩⟩ := right_ints _ _ _ _ _ _ hr
  have hsg := signedOf_bd imm i0 i1
  have Ird : IsInt rd := isInt_of (by omega) (by omega)
  have Irs1 : IsInt rs1 := isInt_of (by omega) (by omega)
  have Irs2 : IsInt rs2 := isInt_of (by omega) (by omega)
  have Icsr : IsInt csr := isInt_of (by omega) (by omega)
  have Isg : IsInt (signedOf imm) := isInt_of (by omega) (by omega)
  have HNL : Hid ((nameL.getD k []).length ≤ 20) := Nat.le_trans (name_len k hk) (by decide)
  have HL : Hid (∀ n : Int, (numL n).length ≤ 100 ∧ (120 :: numL n).length ≤ 100) := num_lens
  have HL5 : Hid (∀ n : Int, (numL n).length ≤ 50 ∧ (120 :: numL n).length ≤ 50) := num_lens5
  have HLA : Hid (∀ a b : Int, (numL a ++ 40 :: ((120 :: numL b) ++ [41])).length ≤ 100) := addr_len
  clear tf tn tp i0 i1 hr a0 a1 b0 b1 d0 d1 e0 e1 hsg hk hk0
  have HS : Hid (SixT (w.alloc (.cells #[.int .i64 k, .int .i64 rd, .int .i64 rs1, .int .i64 rs2, .int .u32 imm, .int .i64 csr] 27)) w.heap.size k rd rs1 rs2 imm csr) := sixT_new w _ rfl _ _ _ _ _ _ _
  have hW : Hid (Below w.heap.size w (w.alloc (.cells #[.int .i64 k, .int .i64 rd, .int .i64 rs1, .int .i64 rs2, .int .u32 imm, .int .i64 csr] 27))) := (Below.refl _ _).alloc (Nat.le_refl _) _
  go_enter Tryd.func20, Tryd.ntmps20
  go_wp2_with fail
  generalize w.alloc (.cells #[.int .i64 k, .int .i64 rd, .int .i64 rs1, .int .i64 rs2, .int .u32 imm, .int .i64 csr] 27) = W at *
  refine (name_bsk k HKL.out _ (NameTab.below HN.out hW.out)).mono ?_
  rintro e w' ⟨rfl, hw⟩; have hw := hw.symm; subst hw
  obtain ⟨c0, c1, c2, c3, c4, c5⟩ := HS.out
  go_wp2_with fail
  refine (form_yes k HKL.out _ (FormTab.below HF.out hW.out)).mono ?_
  rintro e w' ⟨rfl, hw⟩; have hw := hw.symm; subst hw
  have HSd : Hid (SixT W.drew w.heap.size k rd rs1 rs2 imm csr) := SixT.on HS.out ((Below.refl W.heap.size W).drew)
  have hWd : Hid (Below w.heap.size w W.drew) := hW.out.drew
  go_wp2_with fail
  go_region_held3 (fun w' => w'.cell? ⟨w.heap.size, 0, none⟩ = some (.int .i64 k) ∧ w'.cell? ⟨w.heap.size, 1, none⟩ = some (.int .i64 rd) ∧ w'.cell? ⟨w.heap.size, 2, none⟩ = some (.int .i64 rs1) ∧ w'.cell? ⟨w.heap.size, 3, none⟩ = some (.int .i64 rs2) ∧ w'.cell? ⟨w.heap.size, 4, none⟩ = some (.int .u32 imm) ∧ w'.cell? ⟨w.heap.size, 5, none⟩ = some (.int .i64 csr)) (first | (refine ⟨?_, ?_, ?_, ?_, ?_, ?_⟩ <;> assumption) | simp)
    (first
      | (go_at_call 9; refine (register_any _ _ (And.left (show IsInt _ by assumption)) (And.right (show IsInt _ by assumption)) (powTab_below HK.out (Hid.out (by assumption)))).mono ?_; rintro e w1 ⟨rfl, hb⟩; have HB := below_step (by assumption) hb; have HSn := six_step (by assumption) hb; obtain ⟨c0, c1, c2, c3, c4, c5⟩ := HSn.out; clear hb))
  clear HSd hWd HS hW
  have HSd : Hid (SixT w1.drew w.heap.size k rd rs1 rs2 imm csr) := SixT.on HSn.out ((Below.refl w1.heap.size w1).drew)
  have hWd : Hid (Below w.heap.size w w1.drew) := HB.out.drew
  clear HSn HB
  go_wp2_with fail
  go_region_held3 (fun w' => w'.cell? ⟨w.heap.size, 0, none⟩ = some (.int .i64 k) ∧ w'.cell? ⟨w.heap.size, 1, none⟩ = some (.int .i64 rd) ∧ w'.cell? ⟨w.heap.size, 2, none⟩ = some (.int .i64 rs1) ∧ w'.cell? ⟨w.heap.size, 3, none⟩ = some (.int .i64 rs2) ∧ w'.cell? ⟨w.heap.size, 4, none⟩ = some (.int .u32 imm) ∧ w'.cell? ⟨w.heap.size, 5, none⟩ = some (.int .i64 csr)) (first | (refine ⟨?_, ?_, ?_, ?_, ?_, ?_⟩ <;> assumption) | simp)
    (first
      | (go_at_call 7; refine (number_any _ _ (And.left (show IsInt _ by assumption)) (And.right (show IsInt _ by assumption)) (powTab_below HK.out (Hid.out (by assumption)))).mono ?_; rintro e w1 ⟨rfl, hb⟩; have HB := below_step (by assumption) hb; have HSn := six_step (by assumption) hb; obtain ⟨c0, c1, c2, c3, c4, c5⟩ := HSn.out; clear hb)
      | (go_at_call 41; refine (signed_any imm _ HI0.out HI1.out).mono ?_; rintro e w' ⟨rfl, hw⟩; have hw := hw.symm; subst hw))
  clear HSd hWd
  have hz9 : formZ k = 0 ∨ formZ k = 1 ∨ formZ k = 2 ∨ formZ k = 3 ∨ formZ k = 4 ∨ formZ k = 5 ∨ formZ k = 6 ∨ formZ k = 7 ∨ formZ k = 8 ∨ formZ k = 9 := by
    have := formZ_lt k HKL.out; omega
  rcases hz9 with hz | hz | hz | hz | hz | hz | hz | hz | hz | hz
  · have HT := Lib.hid (tx_0 k rd rs1 rs2 imm csr hz)
    go_wp2_with (go_at_call 27; refine (line0 _ _).mono ?_; rintro e w' ⟨rfl, hw⟩; have hw := hw.symm; subst hw)
    go_ret
    exact ⟨by rw [← HT.out]; rfl, HB.out⟩
  · have HT := Lib.hid (tx_1 k rd rs1 rs2 imm csr hz)
    have i0 := HI0.out
    have i1 := HI1.out
    go_wp2_with (first
      | (go_at_call 28; refine (unsigned_any (imm / 4096) _ (by omega) (by omega) (powTab_below HK.out HB.out)).mono ?_; rintro e w2 ⟨rfl, hb⟩; have HB2 := below_step HB hb; clear hb)
      | (go_at_call 27; refine (line2 _ (120 :: numL rd) (numL (imm / 4096)) _ _ HNL.out (HL.out rd).2 (HL.out _).1 (by simp) (by simp)).mono ?_; rintro e w3 ⟨rfl, hb⟩))
    go_ret
    exact ⟨by rw [← HT.out]; rfl, below_al HB2 hb⟩
  · have HT := Lib.hid (tx_2 k rd rs1 rs2 imm csr hz)
    go_wp2_with (first
      | (go_at_call 27; refine (line2 _ (120 :: numL rd) (numL (signedOf imm)) _ _ HNL.out (HL.out rd).2 (HL.out _).1 (by simp) (by simp)).mono ?_; rintro e w3 ⟨rfl, hb⟩))
    go_ret
    exact ⟨by rw [← HT.out]; rfl, below_al HB hb⟩
  · by_cases h15 : k ≤ 15
    · have HT := Lib.hid (tx_3a k rd rs1 rs2 imm csr hz h15)
      have ha := hasAddr_any k HKL.out hz w1
      rw [decide_eq_true h15] at ha
      clear h15
      go_wp2_with (first
        | (go_at_call 42; refine ha.mono ?_; rintro e w' ⟨rfl, hw⟩; have hw := hw.symm; subst hw)
        | (go_at_call 43; refine (address_any (numL (signedOf imm)) (120 :: numL rs1) _ (HL5.out _).1 (HL5.out rs1).2).mono ?_; rintro e w' ⟨rfl, hw⟩; have hw := hw.symm; subst hw)
        | (go_at_call 27; refine (line2 _ (120 :: numL rd) (numL (signedOf imm) ++ 40 :: ((120 :: numL rs1) ++ [41])) _ _ HNL.out (HL.out rd).2 (HLA.out _ _) (by simp) (by simp)).mono ?_; rintro e w3 ⟨rfl, hb⟩))
      go_ret
      exact ⟨by rw [← HT.out]; rfl, below_al HB hb⟩
    · have HT := Lib.hid (tx_3b k rd rs1 rs2 imm csr hz h15)
      have ha := hasAddr_any k HKL.out hz w1
      rw [decide_eq_false h15] at ha
      clear h15
      go_wp2_with (first
        | (go_at_call 42; refine ha.mono ?_; rintro e w' ⟨rfl, hw⟩; have hw := hw.symm; subst hw)
        | (go_at_call 27; refine (line3 _ (120 :: numL rd) (120 :: numL rs1) (numL (signedOf imm)) _ _ HNL.out (HL.out rd).2 (HL.out rs1).2 (HL.out _).1 (by simp) (by simp) (by simp)).mono ?_; rintro e w3 ⟨rfl, hb⟩))
      go_ret
      exact ⟨by rw [← HT.out]; rfl, below_al HB hb⟩
  · have HT := Lib.hid (tx_4 k rd rs1 rs2 imm csr hz)
    go_wp2_with (first
      | (go_at_call 27; refine (line3 _ (120 :: numL rs1) (120 :: numL rs2) (numL (signedOf imm)) _ _ HNL.out (HL.out rs1).2 (HL.out rs2).2 (HL.out _).1 (by simp) (by simp) (by simp)).mono ?_; rintro e w3 ⟨rfl, hb⟩))
    go_ret
    exact ⟨by rw [← HT.out]; rfl, below_al HB hb⟩
  · have HT := Lib.hid (tx_5 k rd rs1 rs2 imm csr hz)
    go_wp2_with (first
      | (go_at_call 43; refine (address_any (numL (signedOf imm)) (120 :: numL rs1) _ (HL5.out _).1 (HL5.out rs1).2).mono ?_; rintro e w' ⟨rfl, hw⟩; have hw := hw.symm; subst hw)
      | (go_at_call 27; refine (line2 _ (120 :: numL rs2) (numL (signedOf imm) ++ 40 :: ((120 :: numL rs1) ++ [41])) _ _ HNL.out (HL.out rs2).2 (HLA.out _ _) (by simp) (by simp)).mono ?_; rintro e w3 ⟨rfl, hb⟩))
    go_ret
    exact ⟨by rw [← HT.out]; rfl, below_al HB hb⟩
  · have HT := Lib.hid (tx_6 k rd rs1 rs2 imm csr hz)
    go_wp2_with (first
      | (go_at_call 27; refine (line3 _ (120 :: numL rd) (120 :: numL rs1) (120 :: numL rs2) _ _ HNL.out (HL.out rd).2 (HL.out rs1).2 (HL.out rs2).2 (by simp) (by simp) (by simp)).mono ?_; rintro e w3 ⟨rfl, hb⟩))
    go_ret
    exact ⟨by rw [← HT.out]; rfl, below_al HB hb⟩
  · have HT := Lib.hid (tx_7 k rd rs1 rs2 imm csr hz)
    go_wp2_with (first
      | (go_at_call 27; refine (line3 _ (120 :: numL rd) (120 :: numL rs1) (numL (signedOf imm)) _ _ HNL.out (HL.out rd).2 (HL.out rs1).2 (HL.out _).1 (by simp) (by simp) (by simp)).mono ?_; rintro e w3 ⟨rfl, hb⟩))
    go_ret
    exact ⟨by rw [← HT.out]; rfl, below_al HB hb⟩
  · have HT := Lib.hid (tx_8 k rd rs1 rs2 imm csr hz)
    go_wp2_with (first
      | (go_at_call 27; refine (line3 _ (120 :: numL rd) (numL csr) (120 :: numL rs1) _ _ HNL.out (HL.out rd).2 (HL.out _).1 (HL.out rs1).2 (by simp) (by simp) (by simp)).mono ?_; rintro e w3 ⟨rfl, hb⟩))
    go_ret
    exact ⟨by rw [← HT.out]; rfl, below_al HB hb⟩
  · have HT := Lib.hid (tx_9 k rd rs1 rs2 imm csr hz)
    go_wp2_with (first
      | (go_at_call 27; refine (line3 _ (120 :: numL rd) (numL csr) (numL (signedOf imm)) _ _ HNL.out (HL.out rd).2 (HL.out _).1 (HL.out _).1 (by simp) (by simp) (by simp)).mono ?_; rintro e w3 ⟨rfl, hb⟩))
    go_ret
    exact ⟨by rw [← HT.out]; rfl, below_al HB hb⟩
end Go.Proofs.YtakomdopeadcjaaDoor
