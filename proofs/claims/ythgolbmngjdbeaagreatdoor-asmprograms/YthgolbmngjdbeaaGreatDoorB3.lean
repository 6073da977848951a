/- My texts AsmNumber2, AsmFill, AsmGoN, AsmSpec, AsmFill2, InstRefs, AsmShape, InstOp, InstAwake, bound into one. -/
import Derived.Test.YthgolbmngjdbeaaGreatDoorB2
import Derived.Test.YthgolbmngjdbeaaGreatDoorB1
import Derived.Lib.Hide
import Derived.Laws.Strings
/- Layer 6: the document's own Number, walked. -/
namespace Go.Proofs.YthgolbmngjdbeaaGreatDoor
open Go.RowKit
set_option linter.unusedVariables false

theorem magN_dec (t : List UInt8) (h : ¬ (2 < t.length ∧ t.getD 0 0 = 48 ∧ t.getD 1 0 = 120)) : magN t = digN t := by unfold magN; rw [if_neg h]
theorem magN_hex (t : List UInt8) (h : 2 < t.length ∧ t.getD 0 0 = 48 ∧ t.getD 1 0 = 120) : magN t = hexN (t.drop 2) := by unfold magN; rw [if_pos h]
theorem cvt_none {less : Bool} {n : Int} (h : n < 0 ∨ 4294967295 < n ∨ (less = true ∧ 2147483648 < n)) : cvtN less n = none := by unfold cvtN; rw [if_pos h]
theorem cvt_some {less : Bool} {n : Int} (h : ¬ (n < 0 ∨ 4294967295 < n ∨ (less = true ∧ 2147483648 < n))) : cvtN less n = some ((if less then 0 - n else n) % 4294967296) := by unfold cvtN; rw [if_neg h]
theorem ret_num {o : Option Int} {a : Int} {b : Bool} (h : o = if b then some a else none) (h' : b = false → a = 0) : Ending.returned (.tuple #[.int .u32 a, .bool b]) = .returned (.tuple #[.int .u32 (o.getD 0), .bool o.isSome]) := by
  cases b
  · rw [h, h' rfl]; rfl
  · rw [h]; rfl

set_option maxRecDepth 100000 in
set_option maxHeartbeats 8000000 in
theorem rnum6_less (l : List UInt8) (w : World) (hl : l.length ≤ 70000) (h0 : 0 < l.length) (hc : l.getD 0 0 = 45) :
    Calls Tryz.prog 26 #[.string (bs l)] w fun e w' => e = .returned (.tuple #[.int .u32 ((numW l).getD 0), .bool (numW l).isSome]) ∧ w' = w := by
  have HNL0 : Hid (numW l = cvtN true (magN (l.drop 1))) := by
    show numW l = _
    unfold numW lessB
    rw [decide_eq_true ⟨h0, hc⟩]; rfl
  have hdr := drop_bs l 1
  have hszl : (bs l).size = l.length := bs_size l
  have hsl := sign_form (bs l) 0
  have hsl0 : signAt (bs l) 0 = 45 := by rw [sign_bs, hc]; rfl
  rw [hsl0] at hsl
  have hlt0 : (l.drop 1).length ≤ 70000 := by simp; omega
  have hszt0 := bs_size (l.drop 1)
  obtain ⟨t, ht⟩ : ∃ t, t = l.drop 1 := ⟨_, rfl⟩
  rw [← ht] at HNL0 hdr hlt0 hszt0
  have HNL : Hid (numW l = cvtN true (magN t)) := HNL0
  have HLT : Hid (t.length ≤ 70000) := hlt0
  have hszt : (bs t).size = t.length := hszt0
  clear ht HNL0 hszt0 hsl0 hc
  generalize bs l = S at *
  obtain ⟨q1, q0⟩ := digN_lt t
  have HD : Hid (∀ w, Calls Tryz.prog 54 #[.string (bs t)] w fun e w' => e = .returned (.int .i64 (digN t)) ∧ w' = w) := fun w => rdig6_any t w (by have := HLT.out; omega)
  have HDEC : Hid (¬ (2 < t.length ∧ t.getD 0 0 = 48 ∧ t.getD 1 0 = 120) → numW l = cvtN true (digN t)) := fun h => by rw [HNL.out, magN_dec t h]
  have HHEX : Hid (2 < t.length ∧ t.getD 0 0 = 48 ∧ t.getD 1 0 = 120 → numW l = cvtN true (hexN (t.drop 2))) := fun h => by rw [HNL.out, magN_hex t h]
  have HU : Hid (∀ w, Calls Tryz.prog 55 #[.string (bs (t.drop 2))] w fun e w' => ∃ (x : Int) (b : Bool), e = .returned (.tuple #[.int .u32 x, .bool b]) ∧ (if b then x else -1) = hexN (t.drop 2) ∧ 0 ≤ x ∧ x < 4294967296 ∧ w' = w) := fun w => runhex_any (t.drop 2) w (by have := HLT.out; simp; omega)
  have hdr2 := drop_bs t 2
  have hs0 := sign_form (bs t) 0
  have hs1 := sign_form (bs t) 1
  have hC0 := sign_bs t 0
  have hC1 := sign_bs t 1
  obtain ⟨b0, b0'⟩ := signAt_bd (bs t) 0
  obtain ⟨b1, b1'⟩ := signAt_bd (bs t) 1
  generalize digN t = D at *
  generalize hexN (t.drop 2) = X at *
  generalize t.drop 2 = u at *
  generalize t.getD 0 0 = c0 at *
  generalize t.getD 1 0 = c1 at *
  generalize signAt (bs t) 0 = C0 at *
  generalize signAt (bs t) 1 = C1 at *
  have E0 : Hid (C0 = (c0.toNat : Int)) := hC0
  have E1 : Hid (C1 = (c1.toNat : Int)) := hC1
  clear hC0 hC1
  by_cases n1 : 2 < t.length
  · by_cases n2 : C0 = 48
    · subst n2
      by_cases n3 : C1 = 120
      · subst n3
        have HNUM : Hid (numW l = cvtN true X) := HHEX.out ⟨n1, byte_is c0 48 (by decide) (by have := E0.out; omega), byte_is c1 120 (by decide) (by have := E1.out; omega)⟩
        clear HDEC HHEX
        go_enter Tryz.func26, Tryz.ntmps26
        go_wp2_with (first
          | (go_at_call 54; refine (HD.out _).mono ?_; rintro e w' ⟨rfl, hw⟩; have hw := hw.symm; subst hw)
          | (go_at_call 55; fail))
        refine (HU.out _).mono ?_
        rintro e w' ⟨x, b, rfl, hx, x0, x1, hw⟩
        have hw := hw.symm
        subst hw
        have HXX : Hid ((if b then x else -1) = X) := hx
        clear hx
        cases b
        · have HNW : Hid (numW l = none) := by
            show numW l = none
            rw [HNUM.out, ← HXX.out]; exact cvt_none (.inl (show (-1 : Int) < 0 by decide))
          go_wp2
          go_ret2
          exact ⟨ret_num (b := false) (by rw [HNW.out]; rfl) (by intro; rfl), rfl⟩
        · by_cases o3 : 2147483648 < x
          · have HNW : Hid (numW l = none) := by
              show numW l = none
              rw [HNUM.out, ← HXX.out]; exact cvt_none (.inr (.inr ⟨rfl, o3⟩))
            go_wp2
            go_ret2
            exact ⟨ret_num (b := false) (by rw [HNW.out]; rfl) (by intro; rfl), rfl⟩
          · have HNW : Hid (numW l = some ((0 - x) % 4294967296)) := by
              show numW l = _
              rw [HNUM.out, ← HXX.out]; exact cvt_some (by rintro (g | g | ⟨_, g⟩) <;> simp at g <;> omega)
            go_wp2_with (first | (go_at_call 31; refine (rwordOf_any _ _ ?_ ?_).mono ?_; omega; omega; rintro e w' ⟨rfl, hw⟩; have hw := hw.symm; subst hw))
            go_ret2
            exact ⟨ret_num (b := true) (by rw [HNW.out]; first | rfl | (simp; omega) | simp) (by intro h; cases h), rfl⟩
      · have e3 : (C1 == 120) = false := by simpa using n3
        have n3c : c1 ≠ 120 := fun g => n3 (by have := E1.out; rw [g] at this; exact this)
        have HNUM : Hid (numW l = cvtN true D) := HDEC.out (fun g => n3c g.2.2)
        have HXC : Hid (∀ w : World, Calls Tryz.prog 54 #[.string (bs t)] w fun e w' => e = .returned (.int .i64 D) ∧ w' = w) := HD
        clear HDEC HHEX HU
        by_cases o1 : D < 0
        · have HNW : Hid (numW l = none) := by
            show numW l = none
            rw [HNUM.out]; exact cvt_none (.inl o1)
          go_enter Tryz.func26, Tryz.ntmps26
          go_wp2_with (first
            | (go_at_call 54; refine (HD.out _).mono ?_; rintro e w' ⟨rfl, hw⟩; have hw := hw.symm; subst hw)
            | (go_at_call 55; refine (HXC.out _).mono ?_; rintro e w' ⟨rfl, hw⟩; have hw := hw.symm; subst hw)
            | (go_at_call 31; refine (rwordOf_any _ _ ?_ ?_).mono ?_; omega; omega; rintro e w' ⟨rfl, hw⟩; have hw := hw.symm; subst hw))
          go_ret2
          exact ⟨ret_num (b := false) (by rw [HNW.out]; first | rfl | (simp; omega) | simp) (by first | (intro; rfl) | (intro h; cases h)), rfl⟩
        · by_cases o2 : 4294967295 < D
          · have HNW : Hid (numW l = none) := by
              show numW l = none
              rw [HNUM.out]; exact cvt_none (.inr (.inl o2))
            go_enter Tryz.func26, Tryz.ntmps26
            go_wp2_with (first
              | (go_at_call 54; refine (HD.out _).mono ?_; rintro e w' ⟨rfl, hw⟩; have hw := hw.symm; subst hw)
              | (go_at_call 55; refine (HXC.out _).mono ?_; rintro e w' ⟨rfl, hw⟩; have hw := hw.symm; subst hw)
              | (go_at_call 31; refine (rwordOf_any _ _ ?_ ?_).mono ?_; omega; omega; rintro e w' ⟨rfl, hw⟩; have hw := hw.symm; subst hw))
            go_ret2
            exact ⟨ret_num (b := false) (by rw [HNW.out]; first | rfl | (simp; omega) | simp) (by first | (intro; rfl) | (intro h; cases h)), rfl⟩
          · by_cases o3 : 2147483648 < D
            · have HNW : Hid (numW l = none) := by
                show numW l = none
                rw [HNUM.out]; exact cvt_none (.inr (.inr ⟨rfl, o3⟩))
              go_enter Tryz.func26, Tryz.ntmps26
              go_wp2_with (first
                | (go_at_call 54; refine (HD.out _).mono ?_; rintro e w' ⟨rfl, hw⟩; have hw := hw.symm; subst hw)
                | (go_at_call 55; refine (HXC.out _).mono ?_; rintro e w' ⟨rfl, hw⟩; have hw := hw.symm; subst hw)
                | (go_at_call 31; refine (rwordOf_any _ _ ?_ ?_).mono ?_; omega; omega; rintro e w' ⟨rfl, hw⟩; have hw := hw.symm; subst hw))
              go_ret2
              exact ⟨ret_num (b := false) (by rw [HNW.out]; first | rfl | (simp; omega) | simp) (by first | (intro; rfl) | (intro h; cases h)), rfl⟩
            · have HNW : Hid (numW l = some ((0 - D) % 4294967296)) := by
                show numW l = _
                rw [HNUM.out]; exact cvt_some (by rintro (g | g | ⟨_, g⟩) <;> omega)
              go_enter Tryz.func26, Tryz.ntmps26
              go_wp2_with (first
                | (go_at_call 54; refine (HD.out _).mono ?_; rintro e w' ⟨rfl, hw⟩; have hw := hw.symm; subst hw)
                | (go_at_call 55; refine (HXC.out _).mono ?_; rintro e w' ⟨rfl, hw⟩; have hw := hw.symm; subst hw)
                | (go_at_call 31; refine (rwordOf_any _ _ ?_ ?_).mono ?_; omega; omega; rintro e w' ⟨rfl, hw⟩; have hw := hw.symm; subst hw))
              go_ret2
              exact ⟨ret_num (b := true) (by rw [HNW.out]; first | rfl | (simp; omega) | simp) (by first | (intro; rfl) | (intro h; cases h)), rfl⟩
    · have e2 : (C0 == 48) = false := by simpa using n2
      have n2c : c0 ≠ 48 := fun g => n2 (by have := E0.out; rw [g] at this; exact this)
      have HNUM : Hid (numW l = cvtN true D) := HDEC.out (fun g => n2c g.2.1)
      have HXC : Hid (∀ w : World, Calls Tryz.prog 54 #[.string (bs t)] w fun e w' => e = .returned (.int .i64 D) ∧ w' = w) := HD
      clear HDEC HHEX HU
      by_cases o1 : D < 0
      · have HNW : Hid (numW l = none) := by
          show numW l = none
          rw [HNUM.out]; exact cvt_none (.inl o1)
        go_enter Tryz.func26, Tryz.ntmps26
        go_wp2_with (first
          | (go_at_call 54; refine (HD.out _).mono ?_; rintro e w' ⟨rfl, hw⟩; have hw := hw.symm; subst hw)
          | (go_at_call 55; refine (HXC.out _).mono ?_; rintro e w' ⟨rfl, hw⟩; have hw := hw.symm; subst hw)
          | (go_at_call 31; refine (rwordOf_any _ _ ?_ ?_).mono ?_; omega; omega; rintro e w' ⟨rfl, hw⟩; have hw := hw.symm; subst hw))
        go_ret2
        exact ⟨ret_num (b := false) (by rw [HNW.out]; first | rfl | (simp; omega) | simp) (by first | (intro; rfl) | (intro h; cases h)), rfl⟩
      · by_cases o2 : 4294967295 < D
        · have HNW : Hid (numW l = none) := by
            show numW l = none
            rw [HNUM.out]; exact cvt_none (.inr (.inl o2))
          go_enter Tryz.func26, Tryz.ntmps26
          go_wp2_with (first
            | (go_at_call 54; refine (HD.out _).mono ?_; rintro e w' ⟨rfl, hw⟩; have hw := hw.symm; subst hw)
            | (go_at_call 55; refine (HXC.out _).mono ?_; rintro e w' ⟨rfl, hw⟩; have hw := hw.symm; subst hw)
            | (go_at_call 31; refine (rwordOf_any _ _ ?_ ?_).mono ?_; omega; omega; rintro e w' ⟨rfl, hw⟩; have hw := hw.symm; subst hw))
          go_ret2
          exact ⟨ret_num (b := false) (by rw [HNW.out]; first | rfl | (simp; omega) | simp) (by first | (intro; rfl) | (intro h; cases h)), rfl⟩
        · by_cases o3 : 2147483648 < D
          · have HNW : Hid (numW l = none) := by
              show numW l = none
              rw [HNUM.out]; exact cvt_none (.inr (.inr ⟨rfl, o3⟩))
            go_enter Tryz.func26, Tryz.ntmps26
            go_wp2_with (first
              | (go_at_call 54; refine (HD.out _).mono ?_; rintro e w' ⟨rfl, hw⟩; have hw := hw.symm; subst hw)
              | (go_at_call 55; refine (HXC.out _).mono ?_; rintro e w' ⟨rfl, hw⟩; have hw := hw.symm; subst hw)
              | (go_at_call 31; refine (rwordOf_any _ _ ?_ ?_).mono ?_; omega; omega; rintro e w' ⟨rfl, hw⟩; have hw := hw.symm; subst hw))
            go_ret2
            exact ⟨ret_num (b := false) (by rw [HNW.out]; first | rfl | (simp; omega) | simp) (by first | (intro; rfl) | (intro h; cases h)), rfl⟩
          · have HNW : Hid (numW l = some ((0 - D) % 4294967296)) := by
              show numW l = _
              rw [HNUM.out]; exact cvt_some (by rintro (g | g | ⟨_, g⟩) <;> omega)
            go_enter Tryz.func26, Tryz.ntmps26
            go_wp2_with (first
              | (go_at_call 54; refine (HD.out _).mono ?_; rintro e w' ⟨rfl, hw⟩; have hw := hw.symm; subst hw)
              | (go_at_call 55; refine (HXC.out _).mono ?_; rintro e w' ⟨rfl, hw⟩; have hw := hw.symm; subst hw)
              | (go_at_call 31; refine (rwordOf_any _ _ ?_ ?_).mono ?_; omega; omega; rintro e w' ⟨rfl, hw⟩; have hw := hw.symm; subst hw))
            go_ret2
            exact ⟨ret_num (b := true) (by rw [HNW.out]; first | rfl | (simp; omega) | simp) (by first | (intro; rfl) | (intro h; cases h)), rfl⟩
  · have n1c : t.length ≤ 2 := by omega
    skip
    have HNUM : Hid (numW l = cvtN true D) := HDEC.out (fun g => n1 g.1)
    have HXC : Hid (∀ w : World, Calls Tryz.prog 54 #[.string (bs t)] w fun e w' => e = .returned (.int .i64 D) ∧ w' = w) := HD
    clear HDEC HHEX HU
    by_cases o1 : D < 0
    · have HNW : Hid (numW l = none) := by
        show numW l = none
        rw [HNUM.out]; exact cvt_none (.inl o1)
      go_enter Tryz.func26, Tryz.ntmps26
      go_wp2_with (first
        | (go_at_call 54; refine (HD.out _).mono ?_; rintro e w' ⟨rfl, hw⟩; have hw := hw.symm; subst hw)
        | (go_at_call 55; refine (HXC.out _).mono ?_; rintro e w' ⟨rfl, hw⟩; have hw := hw.symm; subst hw)
        | (go_at_call 31; refine (rwordOf_any _ _ ?_ ?_).mono ?_; omega; omega; rintro e w' ⟨rfl, hw⟩; have hw := hw.symm; subst hw))
      go_ret2
      exact ⟨ret_num (b := false) (by rw [HNW.out]; first | rfl | (simp; omega) | simp) (by first | (intro; rfl) | (intro h; cases h)), rfl⟩
    · by_cases o2 : 4294967295 < D
      · have HNW : Hid (numW l = none) := by
          show numW l = none
          rw [HNUM.out]; exact cvt_none (.inr (.inl o2))
        go_enter Tryz.func26, Tryz.ntmps26
        go_wp2_with (first
          | (go_at_call 54; refine (HD.out _).mono ?_; rintro e w' ⟨rfl, hw⟩; have hw := hw.symm; subst hw)
          | (go_at_call 55; refine (HXC.out _).mono ?_; rintro e w' ⟨rfl, hw⟩; have hw := hw.symm; subst hw)
          | (go_at_call 31; refine (rwordOf_any _ _ ?_ ?_).mono ?_; omega; omega; rintro e w' ⟨rfl, hw⟩; have hw := hw.symm; subst hw))
        go_ret2
        exact ⟨ret_num (b := false) (by rw [HNW.out]; first | rfl | (simp; omega) | simp) (by first | (intro; rfl) | (intro h; cases h)), rfl⟩
      · by_cases o3 : 2147483648 < D
        · have HNW : Hid (numW l = none) := by
            show numW l = none
            rw [HNUM.out]; exact cvt_none (.inr (.inr ⟨rfl, o3⟩))
          go_enter Tryz.func26, Tryz.ntmps26
          go_wp2_with (first
            | (go_at_call 54; refine (HD.out _).mono ?_; rintro e w' ⟨rfl, hw⟩; have hw := hw.symm; subst hw)
            | (go_at_call 55; refine (HXC.out _).mono ?_; rintro e w' ⟨rfl, hw⟩; have hw := hw.symm; subst hw)
            | (go_at_call 31; refine (rwordOf_any _ _ ?_ ?_).mono ?_; omega; omega; rintro e w' ⟨rfl, hw⟩; have hw := hw.symm; subst hw))
          go_ret2
          exact ⟨ret_num (b := false) (by rw [HNW.out]; first | rfl | (simp; omega) | simp) (by first | (intro; rfl) | (intro h; cases h)), rfl⟩
        · have HNW : Hid (numW l = some ((0 - D) % 4294967296)) := by
            show numW l = _
            rw [HNUM.out]; exact cvt_some (by rintro (g | g | ⟨_, g⟩) <;> omega)
          go_enter Tryz.func26, Tryz.ntmps26
          go_wp2_with (first
            | (go_at_call 54; refine (HD.out _).mono ?_; rintro e w' ⟨rfl, hw⟩; have hw := hw.symm; subst hw)
            | (go_at_call 55; refine (HXC.out _).mono ?_; rintro e w' ⟨rfl, hw⟩; have hw := hw.symm; subst hw)
            | (go_at_call 31; refine (rwordOf_any _ _ ?_ ?_).mono ?_; omega; omega; rintro e w' ⟨rfl, hw⟩; have hw := hw.symm; subst hw))
          go_ret2
          exact ⟨ret_num (b := true) (by rw [HNW.out]; first | rfl | (simp; omega) | simp) (by first | (intro; rfl) | (intro h; cases h)), rfl⟩

set_option maxRecDepth 100000 in
set_option maxHeartbeats 8000000 in
theorem rnum6_plain (l : List UInt8) (w : World) (hl : l.length ≤ 70000) (h0 : 0 < l.length) (hc : l.getD 0 0 ≠ 45) :
    Calls Tryz.prog 26 #[.string (bs l)] w fun e w' => e = .returned (.tuple #[.int .u32 ((numW l).getD 0), .bool (numW l).isSome]) ∧ w' = w := by
  have HNL0 : Hid (numW l = cvtN false (magN l)) := by
    show numW l = _
    unfold numW lessB
    rw [decide_eq_false (fun g => hc g.2)]; rfl
  have hne : (signAt (bs l) 0 == 45) = false := by
    rw [beq_eq_false_iff_ne, sign_bs]
    intro g
    exact hc (byte_is _ 45 (by decide) (by omega))
  obtain ⟨t, ht⟩ : ∃ t, t = l := ⟨_, rfl⟩
  rw [← ht] at hne h0
  have HNL : Hid (numW l = cvtN false (magN t)) := by rw [ht]; exact HNL0
  have HLT : Hid (t.length ≤ 70000) := by rw [ht]; exact hl
  have hszt : (bs t).size = t.length := bs_size t
  have HTL : Hid (l = t) := ht.symm
  rw [show #[Value.string (bs l)] = #[Value.string (bs t)] from by rw [ht]]
  clear ht HNL0 hc hl
  obtain ⟨q1, q0⟩ := digN_lt t
  have HD : Hid (∀ w, Calls Tryz.prog 54 #[.string (bs t)] w fun e w' => e = .returned (.int .i64 (digN t)) ∧ w' = w) := fun w => rdig6_any t w (by have := HLT.out; omega)
  have HDEC : Hid (¬ (2 < t.length ∧ t.getD 0 0 = 48 ∧ t.getD 1 0 = 120) → numW l = cvtN false (digN t)) := fun h => by rw [HNL.out, magN_dec t h]
  have HHEX : Hid (2 < t.length ∧ t.getD 0 0 = 48 ∧ t.getD 1 0 = 120 → numW l = cvtN false (hexN (t.drop 2))) := fun h => by rw [HNL.out, magN_hex t h]
  have HU : Hid (∀ w, Calls Tryz.prog 55 #[.string (bs (t.drop 2))] w fun e w' => ∃ (x : Int) (b : Bool), e = .returned (.tuple #[.int .u32 x, .bool b]) ∧ (if b then x else -1) = hexN (t.drop 2) ∧ 0 ≤ x ∧ x < 4294967296 ∧ w' = w) := fun w => runhex_any (t.drop 2) w (by have := HLT.out; simp; omega)
  have hdr2 := drop_bs t 2
  have hs0 := sign_form (bs t) 0
  have hs1 := sign_form (bs t) 1
  have hC0 := sign_bs t 0
  have hC1 := sign_bs t 1
  obtain ⟨b0, b0'⟩ := signAt_bd (bs t) 0
  obtain ⟨b1, b1'⟩ := signAt_bd (bs t) 1
  generalize digN t = D at *
  generalize hexN (t.drop 2) = X at *
  generalize t.drop 2 = u at *
  generalize t.getD 0 0 = c0 at *
  generalize t.getD 1 0 = c1 at *
  generalize signAt (bs t) 0 = C0 at *
  generalize signAt (bs t) 1 = C1 at *
  have E0 : Hid (C0 = (c0.toNat : Int)) := hC0
  have E1 : Hid (C1 = (c1.toNat : Int)) := hC1
  clear hC0 hC1
  by_cases n1 : 2 < t.length
  · by_cases n2 : C0 = 48
    · subst n2
      by_cases n3 : C1 = 120
      · subst n3
        have HNUM : Hid (numW l = cvtN false X) := HHEX.out ⟨n1, byte_is c0 48 (by decide) (by have := E0.out; omega), byte_is c1 120 (by decide) (by have := E1.out; omega)⟩
        clear HDEC HHEX
        go_enter Tryz.func26, Tryz.ntmps26
        go_wp2_with (first
          | (go_at_call 54; refine (HD.out _).mono ?_; rintro e w' ⟨rfl, hw⟩; have hw := hw.symm; subst hw)
          | (go_at_call 55; fail))
        refine (HU.out _).mono ?_
        rintro e w' ⟨x, b, rfl, hx, x0, x1, hw⟩
        have hw := hw.symm
        subst hw
        have HXX : Hid ((if b then x else -1) = X) := hx
        clear hx
        cases b
        · have HNW : Hid (numW l = none) := by
            show numW l = none
            rw [HNUM.out, ← HXX.out]; exact cvt_none (.inl (show (-1 : Int) < 0 by decide))
          go_wp2
          go_ret2
          exact ⟨ret_num (b := false) (by rw [HNW.out]; rfl) (by intro; rfl), rfl⟩
        · have HNW : Hid (numW l = some (x % 4294967296)) := by
            show numW l = _
            rw [HNUM.out, ← HXX.out]; exact cvt_some (by rintro (g | g | ⟨g, _⟩) <;> first | (simp at g; omega) | cases g)
          go_wp2_with (first | (go_at_call 31; refine (rwordOf_any _ _ ?_ ?_).mono ?_; omega; omega; rintro e w' ⟨rfl, hw⟩; have hw := hw.symm; subst hw))
          go_ret2
          exact ⟨ret_num (b := true) (by rw [HNW.out]; first | rfl | (simp; omega) | simp) (by intro h; cases h), rfl⟩
      · have e3 : (C1 == 120) = false := by simpa using n3
        have n3c : c1 ≠ 120 := fun g => n3 (by have := E1.out; rw [g] at this; exact this)
        have HNUM : Hid (numW l = cvtN false D) := HDEC.out (fun g => n3c g.2.2)
        have HXC : Hid (∀ w : World, Calls Tryz.prog 54 #[.string (bs t)] w fun e w' => e = .returned (.int .i64 D) ∧ w' = w) := HD
        clear HDEC HHEX HU
        by_cases o1 : D < 0
        · have HNW : Hid (numW l = none) := by
            show numW l = none
            rw [HNUM.out]; exact cvt_none (.inl o1)
          go_enter Tryz.func26, Tryz.ntmps26
          go_wp2_with (first
            | (go_at_call 54; refine (HD.out _).mono ?_; rintro e w' ⟨rfl, hw⟩; have hw := hw.symm; subst hw)
            | (go_at_call 55; refine (HXC.out _).mono ?_; rintro e w' ⟨rfl, hw⟩; have hw := hw.symm; subst hw)
            | (go_at_call 31; refine (rwordOf_any _ _ ?_ ?_).mono ?_; omega; omega; rintro e w' ⟨rfl, hw⟩; have hw := hw.symm; subst hw))
          go_ret2
          exact ⟨ret_num (b := false) (by rw [HNW.out]; first | rfl | (simp; omega) | simp) (by first | (intro; rfl) | (intro h; cases h)), rfl⟩
        · by_cases o2 : 4294967295 < D
          · have HNW : Hid (numW l = none) := by
              show numW l = none
              rw [HNUM.out]; exact cvt_none (.inr (.inl o2))
            go_enter Tryz.func26, Tryz.ntmps26
            go_wp2_with (first
              | (go_at_call 54; refine (HD.out _).mono ?_; rintro e w' ⟨rfl, hw⟩; have hw := hw.symm; subst hw)
              | (go_at_call 55; refine (HXC.out _).mono ?_; rintro e w' ⟨rfl, hw⟩; have hw := hw.symm; subst hw)
              | (go_at_call 31; refine (rwordOf_any _ _ ?_ ?_).mono ?_; omega; omega; rintro e w' ⟨rfl, hw⟩; have hw := hw.symm; subst hw))
            go_ret2
            exact ⟨ret_num (b := false) (by rw [HNW.out]; first | rfl | (simp; omega) | simp) (by first | (intro; rfl) | (intro h; cases h)), rfl⟩
          · have HNW : Hid (numW l = some (D % 4294967296)) := by
              show numW l = _
              rw [HNUM.out]; exact cvt_some (by rintro (g | g | ⟨g, _⟩) <;> first | omega | cases g)
            go_enter Tryz.func26, Tryz.ntmps26
            go_wp2_with (first
              | (go_at_call 54; refine (HD.out _).mono ?_; rintro e w' ⟨rfl, hw⟩; have hw := hw.symm; subst hw)
              | (go_at_call 55; refine (HXC.out _).mono ?_; rintro e w' ⟨rfl, hw⟩; have hw := hw.symm; subst hw)
              | (go_at_call 31; refine (rwordOf_any _ _ ?_ ?_).mono ?_; omega; omega; rintro e w' ⟨rfl, hw⟩; have hw := hw.symm; subst hw))
            go_ret2
            exact ⟨ret_num (b := true) (by rw [HNW.out]; first | rfl | (simp; omega) | simp) (by first | (intro; rfl) | (intro h; cases h)), rfl⟩
    · have e2 : (C0 == 48) = false := by simpa using n2
      have n2c : c0 ≠ 48 := fun g => n2 (by have := E0.out; rw [g] at this; exact this)
      have HNUM : Hid (numW l = cvtN false D) := HDEC.out (fun g => n2c g.2.1)
      have HXC : Hid (∀ w : World, Calls Tryz.prog 54 #[.string (bs t)] w fun e w' => e = .returned (.int .i64 D) ∧ w' = w) := HD
      clear HDEC HHEX HU
      by_cases o1 : D < 0
      · have HNW : Hid (numW l = none) := by
          show numW l = none
          rw [HNUM.out]; exact cvt_none (.inl o1)
        go_enter Tryz.func26, Tryz.ntmps26
        go_wp2_with (first
          | (go_at_call 54; refine (HD.out _).mono ?_; rintro e w' ⟨rfl, hw⟩; have hw := hw.symm; subst hw)
          | (go_at_call 55; refine (HXC.out _).mono ?_; rintro e w' ⟨rfl, hw⟩; have hw := hw.symm; subst hw)
          | (go_at_call 31; refine (rwordOf_any _ _ ?_ ?_).mono ?_; omega; omega; rintro e w' ⟨rfl, hw⟩; have hw := hw.symm; subst hw))
        go_ret2
        exact ⟨ret_num (b := false) (by rw [HNW.out]; first | rfl | (simp; omega) | simp) (by first | (intro; rfl) | (intro h; cases h)), rfl⟩
      · by_cases o2 : 4294967295 < D
        · have HNW : Hid (numW l = none) := by
            show numW l = none
            rw [HNUM.out]; exact cvt_none (.inr (.inl o2))
          go_enter Tryz.func26, Tryz.ntmps26
          go_wp2_with (first
            | (go_at_call 54; refine (HD.out _).mono ?_; rintro e w' ⟨rfl, hw⟩; have hw := hw.symm; subst hw)
            | (go_at_call 55; refine (HXC.out _).mono ?_; rintro e w' ⟨rfl, hw⟩; have hw := hw.symm; subst hw)
            | (go_at_call 31; refine (rwordOf_any _ _ ?_ ?_).mono ?_; omega; omega; rintro e w' ⟨rfl, hw⟩; have hw := hw.symm; subst hw))
          go_ret2
          exact ⟨ret_num (b := false) (by rw [HNW.out]; first | rfl | (simp; omega) | simp) (by first | (intro; rfl) | (intro h; cases h)), rfl⟩
        · have HNW : Hid (numW l = some (D % 4294967296)) := by
            show numW l = _
            rw [HNUM.out]; exact cvt_some (by rintro (g | g | ⟨g, _⟩) <;> first | omega | cases g)
          go_enter Tryz.func26, Tryz.ntmps26
          go_wp2_with (first
            | (go_at_call 54; refine (HD.out _).mono ?_; rintro e w' ⟨rfl, hw⟩; have hw := hw.symm; subst hw)
            | (go_at_call 55; refine (HXC.out _).mono ?_; rintro e w' ⟨rfl, hw⟩; have hw := hw.symm; subst hw)
            | (go_at_call 31; refine (rwordOf_any _ _ ?_ ?_).mono ?_; omega; omega; rintro e w' ⟨rfl, hw⟩; have hw := hw.symm; subst hw))
          go_ret2
          exact ⟨ret_num (b := true) (by rw [HNW.out]; first | rfl | (simp; omega) | simp) (by first | (intro; rfl) | (intro h; cases h)), rfl⟩
  · have n1c : t.length ≤ 2 := by omega
    skip
    have HNUM : Hid (numW l = cvtN false D) := HDEC.out (fun g => n1 g.1)
    have HXC : Hid (∀ w : World, Calls Tryz.prog 54 #[.string (bs t)] w fun e w' => e = .returned (.int .i64 D) ∧ w' = w) := HD
    clear HDEC HHEX HU
    by_cases o1 : D < 0
    · have HNW : Hid (numW l = none) := by
        show numW l = none
        rw [HNUM.out]; exact cvt_none (.inl o1)
      go_enter Tryz.func26, Tryz.ntmps26
      go_wp2_with (first
        | (go_at_call 54; refine (HD.out _).mono ?_; rintro e w' ⟨rfl, hw⟩; have hw := hw.symm; subst hw)
        | (go_at_call 55; refine (HXC.out _).mono ?_; rintro e w' ⟨rfl, hw⟩; have hw := hw.symm; subst hw)
        | (go_at_call 31; refine (rwordOf_any _ _ ?_ ?_).mono ?_; omega; omega; rintro e w' ⟨rfl, hw⟩; have hw := hw.symm; subst hw))
      go_ret2
      exact ⟨ret_num (b := false) (by rw [HNW.out]; first | rfl | (simp; omega) | simp) (by first | (intro; rfl) | (intro h; cases h)), rfl⟩
    · by_cases o2 : 4294967295 < D
      · have HNW : Hid (numW l = none) := by
          show numW l = none
          rw [HNUM.out]; exact cvt_none (.inr (.inl o2))
        go_enter Tryz.func26, Tryz.ntmps26
        go_wp2_with (first
          | (go_at_call 54; refine (HD.out _).mono ?_; rintro e w' ⟨rfl, hw⟩; have hw := hw.symm; subst hw)
          | (go_at_call 55; refine (HXC.out _).mono ?_; rintro e w' ⟨rfl, hw⟩; have hw := hw.symm; subst hw)
          | (go_at_call 31; refine (rwordOf_any _ _ ?_ ?_).mono ?_; omega; omega; rintro e w' ⟨rfl, hw⟩; have hw := hw.symm; subst hw))
        go_ret2
        exact ⟨ret_num (b := false) (by rw [HNW.out]; first | rfl | (simp; omega) | simp) (by first | (intro; rfl) | (intro h; cases h)), rfl⟩
      · have HNW : Hid (numW l = some (D % 4294967296)) := by
          show numW l = _
          rw [HNUM.out]; exact cvt_some (by rintro (g | g | ⟨g, _⟩) <;> first | omega | cases g)
        go_enter Tryz.func26, Tryz.ntmps26
        go_wp2_with (first
          | (go_at_call 54; refine (HD.out _).mono ?_; rintro e w' ⟨rfl, hw⟩; have hw := hw.symm; subst hw)
          | (go_at_call 55; refine (HXC.out _).mono ?_; rintro e w' ⟨rfl, hw⟩; have hw := hw.symm; subst hw)
          | (go_at_call 31; refine (rwordOf_any _ _ ?_ ?_).mono ?_; omega; omega; rintro e w' ⟨rfl, hw⟩; have hw := hw.symm; subst hw))
        go_ret2
        exact ⟨ret_num (b := true) (by rw [HNW.out]; first | rfl | (simp; omega) | simp) (by first | (intro; rfl) | (intro h; cases h)), rfl⟩

set_option maxHeartbeats 1000000 in
theorem rnum6_nil (w : World) :
    Calls Tryz.prog 26 #[.string (bs [])] w fun e w' => e = .returned (.tuple #[.int .u32 ((numW []).getD 0), .bool (numW []).isSome]) ∧ w' = w := by
  have hnil : bs ([] : List UInt8) = ⟨#[]⟩ := rfl
  have HD : Hid (∀ w, Calls Tryz.prog 54 #[.string ⟨#[]⟩] w fun e w' => e = .returned (.int .i64 (-1)) ∧ w' = w) := fun w => rdig6_any [] w (by simp)
  have HNW : Hid (numW [] = none) := rfl
  go_enter Tryz.func26, Tryz.ntmps26
  go_wp2_with (first | (go_at_call 54; refine (HD.out _).mono ?_; rintro e w' ⟨rfl, hw⟩; have hw := hw.symm; subst hw))
  go_ret2
  exact ⟨ret_num (b := false) (by rw [HNW.out]; rfl) (by intro; rfl), rfl⟩

theorem rnum6_any (l : List UInt8) (w : World) (hl : l.length ≤ 70000) :
    Calls Tryz.prog 26 #[.string (bs l)] w fun e w' => e = .returned (.tuple #[.int .u32 ((numW l).getD 0), .bool (numW l).isSome]) ∧ w' = w := by
  by_cases h0 : 0 < l.length
  · by_cases hc : l.getD 0 0 = 45
    · exact rnum6_less l w hl h0 hc
    · exact rnum6_plain l w hl h0 hc
  · obtain rfl : l = [] := List.eq_nil_of_length_eq_zero (by omega)
    exact rnum6_nil w
end Go.Proofs.YthgolbmngjdbeaaGreatDoor

/- Layer 6: the document's own fill: a piece, filled into an item. -/
namespace Go.Proofs.YthgolbmngjdbeaaGreatDoor
open Go.RowKit
set_option linter.unusedVariables false

theorem numW_bd (l : List UInt8) : 0 ≤ (numW l).getD 0 ∧ (numW l).getD 0 < 4294967296 := by
  have : ∀ b n, 0 ≤ (cvtN b n).getD 0 ∧ (cvtN b n).getD 0 < 4294967296 := fun b n => by
    unfold cvtN
    split
    · simp
    · simp; omega
  unfold numW
  split
  · exact this _ _
  · exact this _ _

set_option maxRecDepth 100000 in
set_option maxHeartbeats 1000000 in
theorem fill_rd (l : List UInt8) (op rd rs1 rs2 imm csr : Int) (lb : ByteArray) (wd : Int) (raw : Bool) (line : Int) (w : World) (hl : l.length ≤ 70000) :
    Calls Tryz.prog 29 #[.agg #[.int .i64 op, .int .i64 rd, .int .i64 rs1, .int .i64 rs2, .int .u32 imm, .int .i64 csr, .string lb, .int .u32 wd, .bool raw, .int .i64 line], .string ⟨#[114, 100]⟩, .string (bs l)] w fun e w' => e = .returned (.tuple #[.agg #[.int .i64 op, .int .i64 (regN l), .int .i64 rs1, .int .i64 rs2, .int .u32 imm, .int .i64 csr, .string lb, .int .u32 wd, .bool raw, .int .i64 line], .bool (decide (0 ≤ regN l))]) ∧ Below w.heap.size w w' := by
  have HL : Hid (l.length ≤ 70000) := hl
  have HR : Hid (∀ w, Calls Tryz.prog 56 #[.string (bs l)] w fun e w' => e = .returned (.int .i64 (regN l)) ∧ w' = w) := fun w => rreg6_any l w hl
  have HN : Hid (∀ w, Calls Tryz.prog 26 #[.string (bs l)] w fun e w' => e = .returned (.tuple #[.int .u32 ((numW l).getD 0), .bool (numW l).isSome]) ∧ w' = w) := fun w => rnum6_any l w hl
  have hb := numW_bd l
  generalize regN l = R at *
  generalize (numW l).getD 0 = N at *
  generalize (numW l).isSome = K at *
  go_enter Tryz.func29, Tryz.ntmps29
  go_wp2_with (first
    | (go_at_call 56; refine (HR.out _).mono ?_; rintro e w' ⟨rfl, hw⟩; subst hw)
    | (go_at_call 26; refine (HN.out _).mono ?_; rintro e w' ⟨rfl, hw⟩; subst hw))
  refine bodyPost_ret (v := .tuple #[.agg #[.int .i64 op, .int .i64 R, .int .i64 rs1, .int .i64 rs2, .int .u32 imm, .int .i64 csr, .string lb, .int .u32 wd, .bool raw, .int .i64 line], .bool (decide (0 ≤ R))]) (by simp [results, Tryz.results29, go_sem]) rfl ⟨rfl, ?_⟩
  exact ((Below.refl _ _).alloc (Nat.le_refl _) _).alloc (by simp) _

set_option maxRecDepth 100000 in
set_option maxHeartbeats 1000000 in
theorem fill_rs1 (l : List UInt8) (op rd rs1 rs2 imm csr : Int) (lb : ByteArray) (wd : Int) (raw : Bool) (line : Int) (w : World) (hl : l.length ≤ 70000) :
    Calls Tryz.prog 29 #[.agg #[.int .i64 op, .int .i64 rd, .int .i64 rs1, .int .i64 rs2, .int .u32 imm, .int .i64 csr, .string lb, .int .u32 wd, .bool raw, .int .i64 line], .string ⟨#[114, 115, 49]⟩, .string (bs l)] w fun e w' => e = .returned (.tuple #[.agg #[.int .i64 op, .int .i64 rd, .int .i64 (regN l), .int .i64 rs2, .int .u32 imm, .int .i64 csr, .string lb, .int .u32 wd, .bool raw, .int .i64 line], .bool (decide (0 ≤ regN l))]) ∧ Below w.heap.size w w' := by
  have HL : Hid (l.length ≤ 70000) := hl
  have HR : Hid (∀ w, Calls Tryz.prog 56 #[.string (bs l)] w fun e w' => e = .returned (.int .i64 (regN l)) ∧ w' = w) := fun w => rreg6_any l w hl
  have HN : Hid (∀ w, Calls Tryz.prog 26 #[.string (bs l)] w fun e w' => e = .returned (.tuple #[.int .u32 ((numW l).getD 0), .bool (numW l).isSome]) ∧ w' = w) := fun w => rnum6_any l w hl
  have hb := numW_bd l
  generalize regN l = R at *
  generalize (numW l).getD 0 = N at *
  generalize (numW l).isSome = K at *
  go_enter Tryz.func29, Tryz.ntmps29
  go_wp2_with (first
    | (go_at_call 56; refine (HR.out _).mono ?_; rintro e w' ⟨rfl, hw⟩; subst hw)
    | (go_at_call 26; refine (HN.out _).mono ?_; rintro e w' ⟨rfl, hw⟩; subst hw))
  refine bodyPost_ret (v := .tuple #[.agg #[.int .i64 op, .int .i64 rd, .int .i64 R, .int .i64 rs2, .int .u32 imm, .int .i64 csr, .string lb, .int .u32 wd, .bool raw, .int .i64 line], .bool (decide (0 ≤ R))]) (by simp [results, Tryz.results29, go_sem]) rfl ⟨rfl, ?_⟩
  exact ((Below.refl _ _).alloc (Nat.le_refl _) _).alloc (by simp) _

set_option maxRecDepth 100000 in
set_option maxHeartbeats 1000000 in
theorem fill_rs2 (l : List UInt8) (op rd rs1 rs2 imm csr : Int) (lb : ByteArray) (wd : Int) (raw : Bool) (line : Int) (w : World) (hl : l.length ≤ 70000) :
    Calls Tryz.prog 29 #[.agg #[.int .i64 op, .int .i64 rd, .int .i64 rs1, .int .i64 rs2, .int .u32 imm, .int .i64 csr, .string lb, .int .u32 wd, .bool raw, .int .i64 line], .string ⟨#[114, 115, 50]⟩, .string (bs l)] w fun e w' => e = .returned (.tuple #[.agg #[.int .i64 op, .int .i64 rd, .int .i64 rs1, .int .i64 (regN l), .int .u32 imm, .int .i64 csr, .string lb, .int .u32 wd, .bool raw, .int .i64 line], .bool (decide (0 ≤ regN l))]) ∧ Below w.heap.size w w' := by
  have HL : Hid (l.length ≤ 70000) := hl
  have HR : Hid (∀ w, Calls Tryz.prog 56 #[.string (bs l)] w fun e w' => e = .returned (.int .i64 (regN l)) ∧ w' = w) := fun w => rreg6_any l w hl
  have HN : Hid (∀ w, Calls Tryz.prog 26 #[.string (bs l)] w fun e w' => e = .returned (.tuple #[.int .u32 ((numW l).getD 0), .bool (numW l).isSome]) ∧ w' = w) := fun w => rnum6_any l w hl
  have hb := numW_bd l
  generalize regN l = R at *
  generalize (numW l).getD 0 = N at *
  generalize (numW l).isSome = K at *
  go_enter Tryz.func29, Tryz.ntmps29
  go_wp2_with (first
    | (go_at_call 56; refine (HR.out _).mono ?_; rintro e w' ⟨rfl, hw⟩; subst hw)
    | (go_at_call 26; refine (HN.out _).mono ?_; rintro e w' ⟨rfl, hw⟩; subst hw))
  refine bodyPost_ret (v := .tuple #[.agg #[.int .i64 op, .int .i64 rd, .int .i64 rs1, .int .i64 R, .int .u32 imm, .int .i64 csr, .string lb, .int .u32 wd, .bool raw, .int .i64 line], .bool (decide (0 ≤ R))]) (by simp [results, Tryz.results29, go_sem]) rfl ⟨rfl, ?_⟩
  exact ((Below.refl _ _).alloc (Nat.le_refl _) _).alloc (by simp) _

set_option maxRecDepth 100000 in
set_option maxHeartbeats 1000000 in
theorem fill_number (l : List UInt8) (op rd rs1 rs2 imm csr : Int) (lb : ByteArray) (wd : Int) (raw : Bool) (line : Int) (w : World) (hl : l.length ≤ 70000) :
    Calls Tryz.prog 29 #[.agg #[.int .i64 op, .int .i64 rd, .int .i64 rs1, .int .i64 rs2, .int .u32 imm, .int .i64 csr, .string lb, .int .u32 wd, .bool raw, .int .i64 line], .string ⟨#[110, 117, 109, 98, 101, 114]⟩, .string (bs l)] w fun e w' => e = .returned (.tuple #[.agg #[.int .i64 op, .int .i64 rd, .int .i64 rs1, .int .i64 rs2, .int .u32 ((numW l).getD 0), .int .i64 csr, .string lb, .int .u32 wd, .bool raw, .int .i64 line], .bool (numW l).isSome]) ∧ Below w.heap.size w w' := by
  have HL : Hid (l.length ≤ 70000) := hl
  have HR : Hid (∀ w, Calls Tryz.prog 56 #[.string (bs l)] w fun e w' => e = .returned (.int .i64 (regN l)) ∧ w' = w) := fun w => rreg6_any l w hl
  have HN : Hid (∀ w, Calls Tryz.prog 26 #[.string (bs l)] w fun e w' => e = .returned (.tuple #[.int .u32 ((numW l).getD 0), .bool (numW l).isSome]) ∧ w' = w) := fun w => rnum6_any l w hl
  have hb := numW_bd l
  generalize regN l = R at *
  generalize (numW l).getD 0 = N at *
  generalize (numW l).isSome = K at *
  go_enter Tryz.func29, Tryz.ntmps29
  go_wp2_with (first
    | (go_at_call 56; refine (HR.out _).mono ?_; rintro e w' ⟨rfl, hw⟩; subst hw)
    | (go_at_call 26; refine (HN.out _).mono ?_; rintro e w' ⟨rfl, hw⟩; subst hw))
  refine bodyPost_ret (v := .tuple #[.agg #[.int .i64 op, .int .i64 rd, .int .i64 rs1, .int .i64 rs2, .int .u32 N, .int .i64 csr, .string lb, .int .u32 wd, .bool raw, .int .i64 line], .bool K]) (by simp [results, Tryz.results29, go_sem]) rfl ⟨rfl, ?_⟩
  exact ((Below.refl _ _).alloc (Nat.le_refl _) _).alloc (by simp) _

set_option maxRecDepth 100000 in
set_option maxHeartbeats 1000000 in
theorem fill_csr (l : List UInt8) (op rd rs1 rs2 imm csr : Int) (lb : ByteArray) (wd : Int) (raw : Bool) (line : Int) (w : World) (hl : l.length ≤ 70000) :
    Calls Tryz.prog 29 #[.agg #[.int .i64 op, .int .i64 rd, .int .i64 rs1, .int .i64 rs2, .int .u32 imm, .int .i64 csr, .string lb, .int .u32 wd, .bool raw, .int .i64 line], .string ⟨#[99, 115, 114]⟩, .string (bs l)] w fun e w' => e = .returned (.tuple #[.agg #[.int .i64 op, .int .i64 rd, .int .i64 rs1, .int .i64 rs2, .int .u32 imm, .int .i64 ((numW l).getD 0), .string lb, .int .u32 wd, .bool raw, .int .i64 line], .bool (numW l).isSome]) ∧ Below w.heap.size w w' := by
  have HL : Hid (l.length ≤ 70000) := hl
  have HR : Hid (∀ w, Calls Tryz.prog 56 #[.string (bs l)] w fun e w' => e = .returned (.int .i64 (regN l)) ∧ w' = w) := fun w => rreg6_any l w hl
  have HN : Hid (∀ w, Calls Tryz.prog 26 #[.string (bs l)] w fun e w' => e = .returned (.tuple #[.int .u32 ((numW l).getD 0), .bool (numW l).isSome]) ∧ w' = w) := fun w => rnum6_any l w hl
  have hb := numW_bd l
  generalize regN l = R at *
  generalize (numW l).getD 0 = N at *
  generalize (numW l).isSome = K at *
  go_enter Tryz.func29, Tryz.ntmps29
  go_wp2_with (first
    | (go_at_call 56; refine (HR.out _).mono ?_; rintro e w' ⟨rfl, hw⟩; subst hw)
    | (go_at_call 26; refine (HN.out _).mono ?_; rintro e w' ⟨rfl, hw⟩; subst hw))
  refine bodyPost_ret (v := .tuple #[.agg #[.int .i64 op, .int .i64 rd, .int .i64 rs1, .int .i64 rs2, .int .u32 imm, .int .i64 N, .string lb, .int .u32 wd, .bool raw, .int .i64 line], .bool K]) (by simp [results, Tryz.results29, go_sem]) rfl ⟨rfl, ?_⟩
  exact ((Below.refl _ _).alloc (Nat.le_refl _) _).alloc (by simp) _

set_option maxRecDepth 100000 in
set_option maxHeartbeats 1000000 in
theorem fill_target_name (l : List UInt8) (op rd rs1 rs2 imm csr : Int) (lb : ByteArray) (wd : Int) (raw : Bool) (line : Int) (w : World) (hl : l.length ≤ 70000) (hnm : nameB l = true) :
    Calls Tryz.prog 29 #[.agg #[.int .i64 op, .int .i64 rd, .int .i64 rs1, .int .i64 rs2, .int .u32 imm, .int .i64 csr, .string lb, .int .u32 wd, .bool raw, .int .i64 line], .string ⟨#[116, 97, 114, 103, 101, 116]⟩, .string (bs l)] w fun e w' => e = .returned (.tuple #[.agg #[.int .i64 op, .int .i64 rd, .int .i64 rs1, .int .i64 rs2, .int .u32 imm, .int .i64 csr, .string (bs l), .int .u32 wd, .bool raw, .int .i64 line], .bool true]) ∧ Below w.heap.size w w' := by
  have HL : Hid (l.length ≤ 70000) := hl
  have HR : Hid (∀ w, Calls Tryz.prog 56 #[.string (bs l)] w fun e w' => e = .returned (.int .i64 (regN l)) ∧ w' = w) := fun w => rreg6_any l w hl
  have HN : Hid (∀ w, Calls Tryz.prog 26 #[.string (bs l)] w fun e w' => e = .returned (.tuple #[.int .u32 ((numW l).getD 0), .bool (numW l).isSome]) ∧ w' = w) := fun w => rnum6_any l w hl
  have hb := numW_bd l
  have HNM : Hid (∀ w, Calls Tryz.prog 13 #[.string (bs l)] w fun e w' => e = .returned (.bool true) ∧ w' = w) := fun w => by
    have := rname6_any l w hl
    rw [hnm] at this
    exact this
  clear hnm
  generalize regN l = R at *
  generalize (numW l).getD 0 = N at *
  generalize (numW l).isSome = K at *
  go_enter Tryz.func29, Tryz.ntmps29
  go_wp2_with (first
    | (go_at_call 56; refine (HR.out _).mono ?_; rintro e w' ⟨rfl, hw⟩; subst hw)
    | (go_at_call 13; refine (HNM.out _).mono ?_; rintro e w' ⟨rfl, hw⟩; subst hw)
    | (go_at_call 26; refine (HN.out _).mono ?_; rintro e w' ⟨rfl, hw⟩; subst hw))
  refine bodyPost_ret (v := .tuple #[.agg #[.int .i64 op, .int .i64 rd, .int .i64 rs1, .int .i64 rs2, .int .u32 imm, .int .i64 csr, .string (bs l), .int .u32 wd, .bool raw, .int .i64 line], .bool true]) (by simp [results, Tryz.results29, go_sem]) rfl ⟨rfl, ?_⟩
  exact ((Below.refl _ _).alloc (Nat.le_refl _) _).alloc (by simp) _

set_option maxRecDepth 100000 in
set_option maxHeartbeats 1000000 in
theorem fill_target_num (l : List UInt8) (op rd rs1 rs2 imm csr : Int) (lb : ByteArray) (wd : Int) (raw : Bool) (line : Int) (w : World) (hl : l.length ≤ 70000) (hnm : nameB l = false) :
    Calls Tryz.prog 29 #[.agg #[.int .i64 op, .int .i64 rd, .int .i64 rs1, .int .i64 rs2, .int .u32 imm, .int .i64 csr, .string lb, .int .u32 wd, .bool raw, .int .i64 line], .string ⟨#[116, 97, 114, 103, 101, 116]⟩, .string (bs l)] w fun e w' => e = .returned (.tuple #[.agg #[.int .i64 op, .int .i64 rd, .int .i64 rs1, .int .i64 rs2, .int .u32 ((numW l).getD 0), .int .i64 csr, .string lb, .int .u32 wd, .bool raw, .int .i64 line], .bool (numW l).isSome]) ∧ Below w.heap.size w w' := by
  have HL : Hid (l.length ≤ 70000) := hl
  have HR : Hid (∀ w, Calls Tryz.prog 56 #[.string (bs l)] w fun e w' => e = .returned (.int .i64 (regN l)) ∧ w' = w) := fun w => rreg6_any l w hl
  have HN : Hid (∀ w, Calls Tryz.prog 26 #[.string (bs l)] w fun e w' => e = .returned (.tuple #[.int .u32 ((numW l).getD 0), .bool (numW l).isSome]) ∧ w' = w) := fun w => rnum6_any l w hl
  have hb := numW_bd l
  have HNM : Hid (∀ w, Calls Tryz.prog 13 #[.string (bs l)] w fun e w' => e = .returned (.bool false) ∧ w' = w) := fun w => by
    have := rname6_any l w hl
    rw [hnm] at this
    exact this
  clear hnm
  generalize regN l = R at *
  generalize (numW l).getD 0 = N at *
  generalize (numW l).isSome = K at *
  go_enter Tryz.func29, Tryz.ntmps29
  go_wp2_with (first
    | (go_at_call 56; refine (HR.out _).mono ?_; rintro e w' ⟨rfl, hw⟩; subst hw)
    | (go_at_call 13; refine (HNM.out _).mono ?_; rintro e w' ⟨rfl, hw⟩; subst hw)
    | (go_at_call 26; refine (HN.out _).mono ?_; rintro e w' ⟨rfl, hw⟩; subst hw))
  refine bodyPost_ret (v := .tuple #[.agg #[.int .i64 op, .int .i64 rd, .int .i64 rs1, .int .i64 rs2, .int .u32 N, .int .i64 csr, .string lb, .int .u32 wd, .bool raw, .int .i64 line], .bool K]) (by simp [results, Tryz.results29, go_sem]) rfl ⟨rfl, ?_⟩
  exact ((Below.refl _ _).alloc (Nat.le_refl _) _).alloc (by simp) _

end Go.Proofs.YthgolbmngjdbeaaGreatDoor

/- Layer 6, the program's own decimal, magnitude, Number, register, csr, upper. -/
namespace Go.Proofs.YthgolbmngjdbeaaGreatDoor
open Go.RowKit
set_option linter.unusedVariables false

/-- A number that is there, or 0; whether it is not. -/
def pos (n : Int) : Int := if 0 ≤ n then n else 0
def eN (n : Int) : Int := if 0 ≤ n then 0 else 1
def eO (o : Option Int) : Int := if o.isSome then 0 else 1
theorem pos_yes {n : Int} (h : 0 ≤ n) : pos n = n := if_pos h
theorem pos_no {n : Int} (h : n < 0) : pos n = 0 := if_neg (by omega)
theorem eN_yes {n : Int} (h : 0 ≤ n) : eN n = 0 := if_pos h
theorem eN_no {n : Int} (h : n < 0) : eN n = 1 := if_neg (by omega)
theorem ret_two {k : IntKind} {a b c d : Int} (h : a = b) (g : c = d) : Ending.returned (.tuple #[.int k a, .int .i64 c]) = .returned (.tuple #[.int k b, .int .i64 d]) := by rw [h, g]

set_option maxHeartbeats 1000000 in
theorem dec_any (l : List UInt8) (w : World) (hl : l.length ≤ 70000) :
    Calls Tryz.prog 89 #[.string (bs l)] w fun e w' => e = .returned (.tuple #[.int .u64 (pos (digN l)), .int .i64 (eN (digN l))]) ∧ w' = w := by
  have hsz : (bs l).size = l.length := bs_size l
  by_cases hr : 1 ≤ l.length ∧ l.length ≤ 10
  · obtain ⟨r0, r1⟩ := hr
    go_enter Tryz.func89, Tryz.ntmps89
    go_wp2
    go_loop [4, 16] (fun n i => ∃ k : Nat, k ≤ l.length ∧ i = .int .i64 k ∧ n = .int .u64 (valL (l.take k) : Nat) ∧ Hid ((l.take k).all isDg = true)) (fun _ i => l.length - (intOf i).toNat)
    case atStart => exact ⟨0, Nat.zero_le _, rfl, rfl, by show _ = _; simp⟩
    case round =>
      obtain ⟨k, hk, rfl, rfl, HA⟩ := hrel
      have hb : valL (l.take k) < 10 ^ k := by
        have := valL_lt _ HA.out
        rwa [List.length_take, Nat.min_eq_left hk] at this
      have hb2 : (10 : Nat) ^ k ≤ 10 ^ 10 := Nat.pow_le_pow_right (by decide) (by omega)
      have hb3 : valL (l.take k) < 10000000000 := Nat.lt_of_lt_of_le hb hb2
      clear hb hb2
      by_cases hlt : k < l.length
      · have hsf := sign_form (bs l) k
        obtain ⟨b0, b1⟩ := signAt_bd (bs l) k
        have hC := sign_bs l k
        have HV : Hid _ := take_val l k hlt
        have HT : Hid ((isDg (l.getD k 0) = true → (l.take (k + 1)).all isDg = true)) := take_all l k hlt HA.out
        have HN : Hid (isDg (l.getD k 0) = false → digN l = -1) := digN_bad l k hlt
        generalize l.getD k 0 = c at *
        generalize valL (l.take k) = V at *
        generalize signAt (bs l) k = C at *
        have HC : Hid (C = (c.toNat : Int)) := hC
        clear hC
        by_cases g : 48 ≤ C ∧ C ≤ 57
        · obtain ⟨g, g'⟩ := g
          have HD : Hid (∀ w, Calls Tryz.prog 63 #[.int .u8 C] w fun e w' => e = .returned (.bool true) ∧ w' = w) := fun w => by
            have h := isDigit_any C w b0 b1
            rw [show dgB C = true from decide_eq_true ⟨g, g'⟩] at h; exact h
          go_wp2_with (first | (go_at_call 63; refine (HD.out _).mono ?_; rintro e w' ⟨rfl, hw⟩; have hw := hw.symm; subst hw))
          go_round
          case rel =>
            refine ⟨k + 1, by omega, by go_num, ?_, HT.out (by unfold isDg; have := HC.out; exact decide_eq_true (by omega))⟩
            rw [HV.out]
            have := HC.out
            congr 1
            omega
          case measure => simp [intOf]; omega
        · have HD : Hid (∀ w, Calls Tryz.prog 63 #[.int .u8 C] w fun e w' => e = .returned (.bool false) ∧ w' = w) := fun w => by
            have h := isDigit_any C w b0 b1
            rw [show dgB C = false from decide_eq_false g] at h; exact h
          have HG : Hid (digN l = -1) := by
            refine HN.out ?_
            unfold isDg; have := HC.out; exact decide_eq_false (by omega)
          go_wp2_with (first | (go_at_call 63; refine (HD.out _).mono ?_; rintro e w' ⟨rfl, hw⟩; have hw := hw.symm; subst hw))
          go_ret2
          rw [HG.out]
          exact ⟨rfl, rfl⟩
      · obtain rfl : k = l.length := by omega
        have HG : Hid (digN l = (valL l : Nat)) := by
          show digN l = _
          unfold digN
          rw [if_pos ⟨r0, r1, by have := HA.out; rwa [List.take_length] at this⟩]
        go_wp2
        go_ret2
        refine ⟨ret_two ?_ ?_, rfl⟩
        · rw [HG.out, pos_yes (by omega)]
        · rw [HG.out, eN_yes (by omega)]
  · have HG : Hid (digN l = -1) := by
      show digN l = -1
      unfold digN
      rw [if_neg]
      rintro ⟨h1, h2, _⟩
      exact hr ⟨h1, h2⟩
    rcases (show l.length < 1 ∨ 10 < l.length by omega) with g | g
    all_goals
      clear hr
      go_enter Tryz.func89, Tryz.ntmps89
      go_wp2
      go_ret2
      rw [HG.out]
      exact ⟨rfl, rfl⟩

theorem unhex6_any (l : List UInt8) (w : World) (hl : l.length ≤ 70000) :
    Calls Tryz.prog 96 #[.string (bs l)] w fun e w' => e = .returned (.tuple #[.int .u32 (pos (hexN l)), .int .i64 (eN (hexN l))]) ∧ w' = w := by
  have hsz : (bs l).size = l.length := bs_size l
  by_cases h : 1 ≤ l.length ∧ l.length ≤ 8
  · by_cases hd : ∀ i, i < l.length → 0 ≤ digVal (signAt (bs l) i)
    · refine (unhex_yes (bs l) w (by omega) (by omega) (fun i hi => hd i (by omega))).mono ?_
      rintro e w' ⟨rfl, rfl⟩
      have e : hexN l = valTo (signAt (bs l)) l.length := by
        unfold hexN; rw [if_pos ⟨h.1, h.2, hd⟩]
      have b0 := (valTo_bd (signAt (bs l)) l.length hd).1
      rw [hsz, e, pos_yes b0, eN_yes b0]
      exact ⟨rfl, rfl⟩
    · obtain ⟨j, hj⟩ := Classical.not_forall.1 hd
      have hj1 : j < l.length := Classical.byContradiction fun g => hj fun g' => absurd g' g
      have hj2 : digVal (signAt (bs l) j) < 0 := by
        have := fun g => hj fun _ => g
        omega
      refine (unhex_bad (bs l) w (by omega) (by omega) j (by omega) hj2).mono ?_
      rintro e w' ⟨rfl, rfl⟩
      have e : hexN l = -1 := by
        unfold hexN
        rw [if_neg (fun g => hd g.2.2)]
      rw [e]
      exact ⟨rfl, rfl⟩
  · refine (unhex_short (bs l) w (by unfold maxLen; omega) (by omega)).mono ?_
    rintro e w' ⟨rfl, rfl⟩
    have e : hexN l = -1 := by
      unfold hexN
      rw [if_neg (fun g => h ⟨g.1, g.2.1⟩)]
    rw [e]
    exact ⟨rfl, rfl⟩

theorem gmagN_hex (r : List UInt8) : magN (48 :: 120 :: r) = hexN r := by
  unfold magN
  by_cases h : 2 < (48 :: 120 :: r).length
  · rw [if_pos ⟨h, rfl, rfl⟩]; rfl
  · rw [if_neg (fun g => h g.1)]
    have : r = [] := by
      cases r with
      | nil => rfl
      | cons a b => simp at h
    subst this
    rfl
theorem gmagN_dec (t : List UInt8) (h : ¬ (2 ≤ t.length ∧ t.getD 0 0 = 48 ∧ t.getD 1 0 = 120)) : magN t = digN t := by
  unfold magN
  rw [if_neg (fun g => h ⟨by omega, g.2⟩)]
theorem two_cons {t : List UInt8} {c d : UInt8} (h : 2 ≤ t.length ∧ t.getD 0 0 = c ∧ t.getD 1 0 = d) : ∃ r, t = c :: d :: r := by
  match t, h with
  | x :: y :: r, h =>
    simp at h
    exact ⟨r, by rw [h.1, h.2]⟩
  | [x], h => simp at h
  | [], h => simp at h
theorem one_cons {t : List UInt8} {c : UInt8} (h : 0 < t.length ∧ t.getD 0 0 = c) : ∃ r, t = c :: r := by
  match t, h with
  | x :: r, h =>
    simp at h
    exact ⟨r, by rw [h]⟩
  | [], h => simp at h

set_option maxHeartbeats 400000 in
theorem mag_any (t : List UInt8) (w : World) (hl : t.length ≤ 70000) :
    Calls Tryz.prog 78 #[.string (bs t)] w fun e w' => e = .returned (.tuple #[.int .u64 (pos (magN t)), .int .i64 (eN (magN t))]) ∧ w' = w := by
  by_cases h : 2 ≤ t.length ∧ t.getD 0 0 = 48 ∧ t.getD 1 0 = 120
  · obtain ⟨r, rfl⟩ := two_cons h
    clear h
    rw [gmagN_hex]
    have HL : Hid (r.length ≤ 70000) := by show _ ≤ _; simp at hl; omega
    have HC : Hid (∀ w, Calls Tryz.prog 77 #[.string (bs (48 :: 120 :: r)), .string ⟨#[48, 120]⟩] w fun e w' => e = .returned (.tuple #[.string (bs r), .bool true]) ∧ w' = w) := fun w => by
      have h := cutp_any (48 :: 120 :: r) [48, 120] w
      rw [(pre2_yes 48 120 r).1, (pre2_yes 48 120 r).2] at h
      exact h
    have HU : Hid (∀ w, Calls Tryz.prog 96 #[.string (bs r)] w fun e w' => e = .returned (.tuple #[.int .u32 (pos (hexN r)), .int .i64 (eN (hexN r))]) ∧ w' = w) := fun w => unhex6_any r w HL.out
    have hb : 0 ≤ pos (hexN r) ∧ pos (hexN r) < 4294967296 := by
      have := hexN_lt r
      unfold pos; split <;> omega
    obtain ⟨p0, p1⟩ := hb
    generalize pos (hexN r) = P at *
    generalize eN (hexN r) = E at *
    clear hl
    go_enter Tryz.func78, Tryz.ntmps78
    go_wp2_with (first | (go_at_call 77; refine (HC.out _).mono ?_; rintro e w' ⟨rfl, hw⟩; have hw := hw.symm; subst hw) | (go_at_call 96; refine (HU.out _).mono ?_; rintro e w' ⟨rfl, hw⟩; have hw := hw.symm; subst hw))
    go_ret2
    exact ⟨rfl, rfl⟩
  · rw [gmagN_dec t h]
    have HC : Hid (∀ w, Calls Tryz.prog 77 #[.string (bs t), .string ⟨#[48, 120]⟩] w fun e w' => e = .returned (.tuple #[.string (bs t), .bool false]) ∧ w' = w) := fun w => by
      have h' := cutp_any t [48, 120] w
      rw [(pre2_no 48 120 t h).1, (pre2_no 48 120 t h).2] at h'
      exact h'
    have HU : Hid (∀ w, Calls Tryz.prog 89 #[.string (bs t)] w fun e w' => e = .returned (.tuple #[.int .u64 (pos (digN t)), .int .i64 (eN (digN t))]) ∧ w' = w) := fun w => dec_any t w hl
    generalize pos (digN t) = P at *
    generalize eN (digN t) = E at *
    clear hl h
    go_enter Tryz.func78, Tryz.ntmps78
    go_wp2_with (first | (go_at_call 77; refine (HC.out _).mono ?_; rintro e w' ⟨rfl, hw⟩; have hw := hw.symm; subst hw) | (go_at_call 89; refine (HU.out _).mono ?_; rintro e w' ⟨rfl, hw⟩; have hw := hw.symm; subst hw))
    go_ret2
    exact ⟨rfl, rfl⟩

theorem gcvt_none {b : Bool} {n : Int} (h : n < 0 ∨ 4294967295 < n ∨ (b = true ∧ 2147483648 < n)) : cvtN b n = none := if_pos h
theorem gcvt_some {b : Bool} {n : Int} (h : ¬ (n < 0 ∨ 4294967295 < n ∨ (b = true ∧ 2147483648 < n))) : cvtN b n = some ((if b then 0 - n else n) % 4294967296) := if_neg h
theorem less_cons (r : List UInt8) : lessB (45 :: r) = true := by simp [lessB]
theorem numW_less (r : List UInt8) : numW (45 :: r) = cvtN true (magN r) := by
  unfold numW
  rw [if_pos (less_cons r)]; rfl
theorem numW_plain (l : List UInt8) (h : ¬ (0 < l.length ∧ l.getD 0 0 = 45)) : numW l = cvtN false (magN l) := by
  unfold numW
  rw [if_neg]
  unfold lessB
  simpa using h

/-- The program's own Number, behind its sign. -/
theorem num6_body (l t : List UInt8) (b : Bool) (w : World) (hl : t.length ≤ 70000)
    (HC : Hid (∀ w, Calls Tryz.prog 77 #[.string (bs l), .string ⟨#[45]⟩] w fun e w' => e = .returned (.tuple #[.string (bs t), .bool b]) ∧ w' = w)) :
    Calls Tryz.prog 52 #[.string (bs l)] w fun e w' => e = .returned (.tuple #[.int .u32 ((cvtN b (magN t)).getD 0), .int .i64 (eO (cvtN b (magN t)))]) ∧ w' = w := by
  have HM : Hid (∀ w, Calls Tryz.prog 78 #[.string (bs t)] w fun e w' => e = .returned (.tuple #[.int .u64 (pos (magN t)), .int .i64 (eN (magN t))]) ∧ w' = w) := fun w => mag_any t w hl
  have hM := magN_lt t
  generalize magN t = M at *
  clear hl
  by_cases h0 : M < 0
  · have HN : Hid (cvtN b M = none) := gcvt_none (.inl h0)
    rw [pos_no h0, eN_no h0] at HM
    cases b
    all_goals
      go_enter Tryz.func52, Tryz.ntmps52
      go_wp2_with (first | (go_at_call 77; refine (HC.out _).mono ?_; rintro e w' ⟨rfl, hw⟩; have hw := hw.symm; subst hw) | (go_at_call 78; refine (HM.out _).mono ?_; rintro e w' ⟨rfl, hw⟩; have hw := hw.symm; subst hw))
      go_ret2
      rw [HN.out]
      exact ⟨rfl, rfl⟩
  · have h0' : 0 ≤ M := by omega
    rw [pos_yes h0', eN_yes h0'] at HM
    cases b
    · by_cases h1 : 4294967295 < M
      · have HN : Hid (cvtN false M = none) := gcvt_none (.inr (.inl h1))
        go_enter Tryz.func52, Tryz.ntmps52
        go_wp2_with (first | (go_at_call 77; refine (HC.out _).mono ?_; rintro e w' ⟨rfl, hw⟩; have hw := hw.symm; subst hw) | (go_at_call 78; refine (HM.out _).mono ?_; rintro e w' ⟨rfl, hw⟩; have hw := hw.symm; subst hw))
        go_ret2
        rw [HN.out]
        exact ⟨rfl, rfl⟩
      · have HN : Hid (cvtN false M = some (M % 4294967296)) := gcvt_some (by rintro (h | h | ⟨h, h3⟩) <;> first | omega | cases h)
        go_enter Tryz.func52, Tryz.ntmps52
        go_wp2_with (first | (go_at_call 77; refine (HC.out _).mono ?_; rintro e w' ⟨rfl, hw⟩; have hw := hw.symm; subst hw) | (go_at_call 78; refine (HM.out _).mono ?_; rintro e w' ⟨rfl, hw⟩; have hw := hw.symm; subst hw))
        go_ret2
        rw [HN.out]
        refine ⟨ret_two ?_ rfl, rfl⟩
        simp
        try omega
    · by_cases h1 : 2147483648 < M
      · have HN : Hid (cvtN true M = none) := gcvt_none (.inr (.inr ⟨rfl, h1⟩))
        go_enter Tryz.func52, Tryz.ntmps52
        go_wp2_with (first | (go_at_call 77; refine (HC.out _).mono ?_; rintro e w' ⟨rfl, hw⟩; have hw := hw.symm; subst hw) | (go_at_call 78; refine (HM.out _).mono ?_; rintro e w' ⟨rfl, hw⟩; have hw := hw.symm; subst hw))
        go_ret2
        rw [HN.out]
        exact ⟨rfl, rfl⟩
      · have HN : Hid (cvtN true M = some ((0 - M) % 4294967296)) := gcvt_some (by rintro (h | h | ⟨h, h3⟩) <;> first | omega | cases h)
        go_enter Tryz.func52, Tryz.ntmps52
        go_wp2_with (first | (go_at_call 77; refine (HC.out _).mono ?_; rintro e w' ⟨rfl, hw⟩; have hw := hw.symm; subst hw) | (go_at_call 78; refine (HM.out _).mono ?_; rintro e w' ⟨rfl, hw⟩; have hw := hw.symm; subst hw))
        go_ret2
        rw [HN.out]
        refine ⟨ret_two ?_ rfl, rfl⟩
        simp
        try omega

theorem num6_any (l : List UInt8) (w : World) (hl : l.length ≤ 70000) :
    Calls Tryz.prog 52 #[.string (bs l)] w fun e w' => e = .returned (.tuple #[.int .u32 ((numW l).getD 0), .int .i64 (eO (numW l))]) ∧ w' = w := by
  by_cases h : 0 < l.length ∧ l.getD 0 0 = 45
  · obtain ⟨r, rfl⟩ := one_cons h
    rw [numW_less]
    refine num6_body (45 :: r) r true w (by simp at hl; omega) fun w => ?_
    have h' := cutp_any (45 :: r) [45] w
    rw [(pre1_yes 45 r).1, (pre1_yes 45 r).2] at h'
    exact h'
  · rw [numW_plain l h]
    refine num6_body l l false w hl fun w => ?_
    have h' := cutp_any l [45] w
    rw [(pre1_no 45 l h).1, (pre1_no 45 l h).2] at h'
    exact h'
end Go.Proofs.YthgolbmngjdbeaaGreatDoor

/- Layer 6: what a line and a program are, as mathematics. -/
namespace Go.Proofs.YthgolbmngjdbeaaGreatDoor
open Go.RowKit
set_option linter.unusedVariables false

/-- What a line has: op, rd, rs1, rs2, imm, csr, a label's name, a word, whether it is a word. -/
abbrev It := Int × Int × Int × Int × Int × Int × List UInt8 × Int × Bool
def kRd : List UInt8 := [114, 100]
def kRs1 : List UInt8 := [114, 115, 49]
def kRs2 : List UInt8 := [114, 115, 50]
def kNum : List UInt8 := [110, 117, 109, 98, 101, 114]
def kCsr : List UInt8 := [99, 115, 114]
def kTgt : List UInt8 := [116, 97, 114, 103, 101, 116]
/-- What stands behind a name, piece by piece. -/
def shapeL (k : Nat) : List (List UInt8) :=
  if formZ k = 1 then [kRd, [44], kNum]
  else if formZ k = 2 then [kRd, [44], kTgt]
  else if formZ k = 3 then (if k ≤ 15 then [kRd, [44], kNum, [40], kRs1, [41]] else [kRd, [44], kRs1, [44], kNum])
  else if formZ k = 4 then [kRs1, [44], kRs2, [44], kTgt]
  else if formZ k = 5 then [kRs2, [44], kNum, [40], kRs1, [41]]
  else if formZ k = 6 then [kRd, [44], kRs1, [44], kRs2]
  else if formZ k = 7 then [kRd, [44], kRs1, [44], kNum]
  else if formZ k = 8 then [kRd, [44], kCsr, [44], kRs1]
  else if formZ k = 9 then [kRd, [44], kCsr, [44], kNum]
  else []
/-- A piece filled in. -/
def fillL (x : It) (what s : List UInt8) : Option It :=
  if what = kRd then (if 0 ≤ regN s then some (x.1, regN s, x.2.2) else none)
  else if what = kRs1 then (if 0 ≤ regN s then some (x.1, x.2.1, regN s, x.2.2.2) else none)
  else if what = kRs2 then (if 0 ≤ regN s then some (x.1, x.2.1, x.2.2.1, regN s, x.2.2.2.2) else none)
  else if what = kNum then (numW s).map fun n => (x.1, x.2.1, x.2.2.1, x.2.2.2.1, n, x.2.2.2.2.2)
  else if what = kCsr then (numW s).map fun n => (x.1, x.2.1, x.2.2.1, x.2.2.2.1, x.2.2.2.2.1, n, x.2.2.2.2.2.2)
  else if what = kTgt then (if nameB s = true then some (x.1, x.2.1, x.2.2.1, x.2.2.2.1, x.2.2.2.2.1, x.2.2.2.2.2.1, s, x.2.2.2.2.2.2.2) else (numW s).map fun n => (x.1, x.2.1, x.2.2.1, x.2.2.2.1, n, x.2.2.2.2.2))
  else if s = what then some x else none
def fillsL : It → List (List UInt8) → List (List UInt8) → Option It
  | x, w :: ws, p :: ps => (fillL x w p).bind fun y => fillsL y ws ps
  | x, _, _ => some x
/-- The instruction of a name, among the first k; 0: none. -/
def opTo (p : List UInt8) : Nat → Nat
  | 0 => 0
  | k + 1 => if nameL.getD k [] = p then k else opTo p k
def opN (p : List UInt8) : Nat := opTo p 58
def finL (k : Nat) (x : It) : Option It :=
  if formZ k = 1 then (if 1048576 ≤ x.2.2.2.2.1 then none else some (x.1, x.2.1, x.2.2.1, x.2.2.2.1, x.2.2.2.2.1 * 4096, x.2.2.2.2.2)) else some x
def kWord : List UInt8 := [46, 119, 111, 114, 100]
def itOp (k : Nat) : It := ((k : Int), 0, 0, 0, 0, 0, [], 0, false)
/-- What pieces are. -/
def readL (ps : List (List UInt8)) : Option It :=
  if ps.length = 2 ∧ ps.getD 0 [] = kWord then (numW (ps.getD 1 [])).map fun n => (0, 0, 0, 0, 0, 0, [], n, true)
  else if opN (ps.getD 0 []) = 0 ∨ ps.length ≠ (shapeL (opN (ps.getD 0 []))).length + 1 then none
  else (fillsL (itOp (opN (ps.getD 0 []))) (shapeL (opN (ps.getD 0 []))) (ps.drop 1)).bind (finL (opN (ps.getD 0 [])))
abbrev I6 := Int × Int × Int × Int × Int × Int
def zero6 : I6 := (0, 0, 0, 0, 0, 0)
def ins6 (x : It) : I6 := (x.1, x.2.1, x.2.2.1, x.2.2.2.1, x.2.2.2.2.1, x.2.2.2.2.2.1)
def right6 (x : It) : Bool := rightB x.1 x.2.1 x.2.2.1 x.2.2.2.1 x.2.2.2.2.1 x.2.2.2.2.2.1
def itL (o : Option It) : I6 × Int :=
  match o with
  | none => (zero6, 1)
  | some x => if x.2.2.2.2.2.2.2.2 = true ∨ x.2.2.2.2.2.2.1 ≠ [] then (zero6, 1) else if right6 x = true then (ins6 x, 0) else (zero6, 9)
/-- A line: its instruction, and what is wrong. -/
def lineL (l : List UInt8) : I6 × Int :=
  match piecesL l with
  | none => (zero6, 1)
  | some ps => if ps = [] then (zero6, 1) else itL (readL ps)

/-- Items with their lines, labels' names and addresses. -/
abbrev St := List (It × Int) × List (List UInt8) × List Int
def labB (p : List (List UInt8)) : Bool := decide (2 ≤ p.length ∧ p.getD 1 [] = [58])
/-- What is behind a label. -/
def bodyL (n : Int) (p : List (List UInt8)) (st : St) : St ⊕ (Int × Int) :=
  if p = [] then .inl st
  else match readL p with
    | none => .inr (n + 1, 1)
    | some x => if st.1.length = 4096 then .inr (n + 1, 3) else .inl (st.1 ++ [(x, n + 1)], st.2)
def stepL (n : Int) (l : List UInt8) (st : St) : St ⊕ (Int × Int) :=
  match piecesL l with
  | none => .inr (n + 1, 1)
  | some p =>
    if labB p = true then
      (if nameB (p.getD 0 []) = false ∨ 0 ≤ findN st.2.1 (p.getD 0 []) then .inr (n + 1, 1)
       else bodyL n (p.drop 2) (st.1, st.2.1 ++ [p.getD 0 []], st.2.2 ++ [4 * (st.1.length : Int)]))
    else bodyL n p st
def goL : List (List UInt8) → Nat → St → St ⊕ (Int × Int)
  | [], _, st => .inl st
  | l :: r, n, st => match stepL (n : Int) l st with
    | .inr e => .inr e
    | .inl st' => goL r (n + 1) st'
def okI (op rd rs1 rs2 imm csr : Int) : Bool := decide (1 ≤ op ∧ op < 58) && rightOf (formZ op.toNat) rd rs1 rs2 imm csr
def immI (x : It) (names : List (List UInt8)) (at_ : List Int) (k : Nat) : Int :=
  if x.2.2.2.2.2.2.1 = [] then x.2.2.2.2.1 else (at_.getD (findN names x.2.2.2.2.2.2.1).toNat 0 - 4 * (k : Int)) % 4294967296
/-- The words. -/
def laidL (names : List (List UInt8)) (at_ : List Int) : List (It × Int) → Nat → List Int → List Int × Int × Int
  | [], _, out => (out, 0, 0)
  | (x, ln) :: r, k, out =>
    if x.2.2.2.2.2.2.2.2 = true then laidL names at_ r (k + 1) (out ++ [x.2.2.2.2.2.2.2.1])
    else if x.2.2.2.2.2.2.1 ≠ [] ∧ findN names x.2.2.2.2.2.2.1 < 0 then ([], ln, 1)
    else if okI x.1 x.2.1 x.2.2.1 x.2.2.2.1 (immI x names at_ k) x.2.2.2.2.2.1 = true then
      laidL names at_ r (k + 1) (out ++ [encOf x.1.toNat x.2.1 x.2.2.1 x.2.2.2.1 (immI x names at_ k) x.2.2.2.2.2.1])
    else ([], ln, 9)
def endL (r : St ⊕ (Int × Int)) : List Int × Int × Int :=
  match r with
  | .inr (n, e) => ([], n, e)
  | .inl st => laidL st.2.1 st.2.2 st.1 0 []
def progL (l : List UInt8) : List Int × Int × Int := endL (goL (linesOf l) 0 ([], [], []))
end Go.Proofs.YthgolbmngjdbeaaGreatDoor

/- Layer 6: the document's own fill: a mark. -/
namespace Go.Proofs.YthgolbmngjdbeaaGreatDoor
open Go.RowKit
set_option linter.unusedVariables false

set_option maxRecDepth 100000 in
set_option maxHeartbeats 1000000 in
theorem fill_comma_yes (op rd rs1 rs2 imm csr : Int) (lb : ByteArray) (wd : Int) (raw : Bool) (line : Int) (w : World) :
    Calls Tryz.prog 29 #[.agg #[.int .i64 op, .int .i64 rd, .int .i64 rs1, .int .i64 rs2, .int .u32 imm, .int .i64 csr, .string lb, .int .u32 wd, .bool raw, .int .i64 line], .string ⟨#[44]⟩, .string ⟨#[44]⟩] w fun e w' => e = .returned (.tuple #[.agg #[.int .i64 op, .int .i64 rd, .int .i64 rs1, .int .i64 rs2, .int .u32 imm, .int .i64 csr, .string lb, .int .u32 wd, .bool raw, .int .i64 line], .bool true]) ∧ Below w.heap.size w w' := by
  have HR : Hid (∀ w, Calls Tryz.prog 56 #[.string ⟨#[44]⟩] w fun e w' => e = .returned (.int .i64 (regN [44])) ∧ w' = w) := fun w => rreg6_any [44] w (by decide)
  have HN : Hid (∀ w, Calls Tryz.prog 26 #[.string ⟨#[44]⟩] w fun e w' => e = .returned (.tuple #[.int .u32 ((numW [44]).getD 0), .bool (numW [44]).isSome]) ∧ w' = w) := fun w => rnum6_any [44] w (by decide)
  have hb := numW_bd [44]
  generalize regN [44] = R at *
  generalize (numW [44]).getD 0 = N at *
  generalize (numW [44]).isSome = K at *
  go_enter Tryz.func29, Tryz.ntmps29
  go_wp2_with (first
    | (go_at_call 56; refine (HR.out _).mono ?_; rintro e w' ⟨rfl, hw⟩; subst hw)
    | (go_at_call 26; refine (HN.out _).mono ?_; rintro e w' ⟨rfl, hw⟩; subst hw))
  refine bodyPost_ret (v := .tuple #[.agg #[.int .i64 op, .int .i64 rd, .int .i64 rs1, .int .i64 rs2, .int .u32 imm, .int .i64 csr, .string lb, .int .u32 wd, .bool raw, .int .i64 line], .bool true]) (by simp [results, Tryz.results29, go_sem]) rfl ⟨rfl, ?_⟩
  exact ((Below.refl _ _).alloc (Nat.le_refl _) _).alloc (by simp) _

set_option maxRecDepth 100000 in
set_option maxHeartbeats 1000000 in
theorem fill_comma_no (l : List UInt8) (op rd rs1 rs2 imm csr : Int) (lb : ByteArray) (wd : Int) (raw : Bool) (line : Int) (w : World) (hl : l.length ≤ 70000) (hx : ¬ (bs l).toList = [44]) :
    Calls Tryz.prog 29 #[.agg #[.int .i64 op, .int .i64 rd, .int .i64 rs1, .int .i64 rs2, .int .u32 imm, .int .i64 csr, .string lb, .int .u32 wd, .bool raw, .int .i64 line], .string ⟨#[44]⟩, .string (bs l)] w fun e w' => e = .returned (.tuple #[.agg #[.int .i64 op, .int .i64 rd, .int .i64 rs1, .int .i64 rs2, .int .u32 imm, .int .i64 csr, .string lb, .int .u32 wd, .bool raw, .int .i64 line], .bool false]) ∧ Below w.heap.size w w' := by
  have HR : Hid (∀ w, Calls Tryz.prog 56 #[.string (bs l)] w fun e w' => e = .returned (.int .i64 (regN l)) ∧ w' = w) := fun w => rreg6_any l w hl
  have HN : Hid (∀ w, Calls Tryz.prog 26 #[.string (bs l)] w fun e w' => e = .returned (.tuple #[.int .u32 ((numW l).getD 0), .bool (numW l).isSome]) ∧ w' = w) := fun w => rnum6_any l w hl
  have hb := numW_bd l
  generalize regN l = R at *
  generalize (numW l).getD 0 = N at *
  generalize (numW l).isSome = K at *
  go_enter Tryz.func29, Tryz.ntmps29
  go_wp2_with (first
    | (go_at_call 56; refine (HR.out _).mono ?_; rintro e w' ⟨rfl, hw⟩; subst hw)
    | (go_at_call 26; refine (HN.out _).mono ?_; rintro e w' ⟨rfl, hw⟩; subst hw))
  refine bodyPost_ret (v := .tuple #[.agg #[.int .i64 op, .int .i64 rd, .int .i64 rs1, .int .i64 rs2, .int .u32 imm, .int .i64 csr, .string lb, .int .u32 wd, .bool raw, .int .i64 line], .bool false]) (by simp [results, Tryz.results29, go_sem, hx]) rfl ⟨rfl, ?_⟩
  exact ((Below.refl _ _).alloc (Nat.le_refl _) _).alloc (by simp) _

set_option maxRecDepth 100000 in
set_option maxHeartbeats 1000000 in
theorem fill_open_yes (op rd rs1 rs2 imm csr : Int) (lb : ByteArray) (wd : Int) (raw : Bool) (line : Int) (w : World) :
    Calls Tryz.prog 29 #[.agg #[.int .i64 op, .int .i64 rd, .int .i64 rs1, .int .i64 rs2, .int .u32 imm, .int .i64 csr, .string lb, .int .u32 wd, .bool raw, .int .i64 line], .string ⟨#[40]⟩, .string ⟨#[40]⟩] w fun e w' => e = .returned (.tuple #[.agg #[.int .i64 op, .int .i64 rd, .int .i64 rs1, .int .i64 rs2, .int .u32 imm, .int .i64 csr, .string lb, .int .u32 wd, .bool raw, .int .i64 line], .bool true]) ∧ Below w.heap.size w w' := by
  have HR : Hid (∀ w, Calls Tryz.prog 56 #[.string ⟨#[40]⟩] w fun e w' => e = .returned (.int .i64 (regN [40])) ∧ w' = w) := fun w => rreg6_any [40] w (by decide)
  have HN : Hid (∀ w, Calls Tryz.prog 26 #[.string ⟨#[40]⟩] w fun e w' => e = .returned (.tuple #[.int .u32 ((numW [40]).getD 0), .bool (numW [40]).isSome]) ∧ w' = w) := fun w => rnum6_any [40] w (by decide)
  have hb := numW_bd [40]
  generalize regN [40] = R at *
  generalize (numW [40]).getD 0 = N at *
  generalize (numW [40]).isSome = K at *
  go_enter Tryz.func29, Tryz.ntmps29
  go_wp2_with (first
    | (go_at_call 56; refine (HR.out _).mono ?_; rintro e w' ⟨rfl, hw⟩; subst hw)
    | (go_at_call 26; refine (HN.out _).mono ?_; rintro e w' ⟨rfl, hw⟩; subst hw))
  refine bodyPost_ret (v := .tuple #[.agg #[.int .i64 op, .int .i64 rd, .int .i64 rs1, .int .i64 rs2, .int .u32 imm, .int .i64 csr, .string lb, .int .u32 wd, .bool raw, .int .i64 line], .bool true]) (by simp [results, Tryz.results29, go_sem]) rfl ⟨rfl, ?_⟩
  exact ((Below.refl _ _).alloc (Nat.le_refl _) _).alloc (by simp) _

set_option maxRecDepth 100000 in
set_option maxHeartbeats 1000000 in
theorem fill_open_no (l : List UInt8) (op rd rs1 rs2 imm csr : Int) (lb : ByteArray) (wd : Int) (raw : Bool) (line : Int) (w : World) (hl : l.length ≤ 70000) (hx : ¬ (bs l).toList = [40]) :
    Calls Tryz.prog 29 #[.agg #[.int .i64 op, .int .i64 rd, .int .i64 rs1, .int .i64 rs2, .int .u32 imm, .int .i64 csr, .string lb, .int .u32 wd, .bool raw, .int .i64 line], .string ⟨#[40]⟩, .string (bs l)] w fun e w' => e = .returned (.tuple #[.agg #[.int .i64 op, .int .i64 rd, .int .i64 rs1, .int .i64 rs2, .int .u32 imm, .int .i64 csr, .string lb, .int .u32 wd, .bool raw, .int .i64 line], .bool false]) ∧ Below w.heap.size w w' := by
  have HR : Hid (∀ w, Calls Tryz.prog 56 #[.string (bs l)] w fun e w' => e = .returned (.int .i64 (regN l)) ∧ w' = w) := fun w => rreg6_any l w hl
  have HN : Hid (∀ w, Calls Tryz.prog 26 #[.string (bs l)] w fun e w' => e = .returned (.tuple #[.int .u32 ((numW l).getD 0), .bool (numW l).isSome]) ∧ w' = w) := fun w => rnum6_any l w hl
  have hb := numW_bd l
  generalize regN l = R at *
  generalize (numW l).getD 0 = N at *
  generalize (numW l).isSome = K at *
  go_enter Tryz.func29, Tryz.ntmps29
  go_wp2_with (first
    | (go_at_call 56; refine (HR.out _).mono ?_; rintro e w' ⟨rfl, hw⟩; subst hw)
    | (go_at_call 26; refine (HN.out _).mono ?_; rintro e w' ⟨rfl, hw⟩; subst hw))
  refine bodyPost_ret (v := .tuple #[.agg #[.int .i64 op, .int .i64 rd, .int .i64 rs1, .int .i64 rs2, .int .u32 imm, .int .i64 csr, .string lb, .int .u32 wd, .bool raw, .int .i64 line], .bool false]) (by simp [results, Tryz.results29, go_sem, hx]) rfl ⟨rfl, ?_⟩
  exact ((Below.refl _ _).alloc (Nat.le_refl _) _).alloc (by simp) _

set_option maxRecDepth 100000 in
set_option maxHeartbeats 1000000 in
theorem fill_close_yes (op rd rs1 rs2 imm csr : Int) (lb : ByteArray) (wd : Int) (raw : Bool) (line : Int) (w : World) :
    Calls Tryz.prog 29 #[.agg #[.int .i64 op, .int .i64 rd, .int .i64 rs1, .int .i64 rs2, .int .u32 imm, .int .i64 csr, .string lb, .int .u32 wd, .bool raw, .int .i64 line], .string ⟨#[41]⟩, .string ⟨#[41]⟩] w fun e w' => e = .returned (.tuple #[.agg #[.int .i64 op, .int .i64 rd, .int .i64 rs1, .int .i64 rs2, .int .u32 imm, .int .i64 csr, .string lb, .int .u32 wd, .bool raw, .int .i64 line], .bool true]) ∧ Below w.heap.size w w' := by
  have HR : Hid (∀ w, Calls Tryz.prog 56 #[.string ⟨#[41]⟩] w fun e w' => e = .returned (.int .i64 (regN [41])) ∧ w' = w) := fun w => rreg6_any [41] w (by decide)
  have HN : Hid (∀ w, Calls Tryz.prog 26 #[.string ⟨#[41]⟩] w fun e w' => e = .returned (.tuple #[.int .u32 ((numW [41]).getD 0), .bool (numW [41]).isSome]) ∧ w' = w) := fun w => rnum6_any [41] w (by decide)
  have hb := numW_bd [41]
  generalize regN [41] = R at *
  generalize (numW [41]).getD 0 = N at *
  generalize (numW [41]).isSome = K at *
  go_enter Tryz.func29, Tryz.ntmps29
  go_wp2_with (first
    | (go_at_call 56; refine (HR.out _).mono ?_; rintro e w' ⟨rfl, hw⟩; subst hw)
    | (go_at_call 26; refine (HN.out _).mono ?_; rintro e w' ⟨rfl, hw⟩; subst hw))
  refine bodyPost_ret (v := .tuple #[.agg #[.int .i64 op, .int .i64 rd, .int .i64 rs1, .int .i64 rs2, .int .u32 imm, .int .i64 csr, .string lb, .int .u32 wd, .bool raw, .int .i64 line], .bool true]) (by simp [results, Tryz.results29, go_sem]) rfl ⟨rfl, ?_⟩
  exact ((Below.refl _ _).alloc (Nat.le_refl _) _).alloc (by simp) _

set_option maxRecDepth 100000 in
set_option maxHeartbeats 1000000 in
theorem fill_close_no (l : List UInt8) (op rd rs1 rs2 imm csr : Int) (lb : ByteArray) (wd : Int) (raw : Bool) (line : Int) (w : World) (hl : l.length ≤ 70000) (hx : ¬ (bs l).toList = [41]) :
    Calls Tryz.prog 29 #[.agg #[.int .i64 op, .int .i64 rd, .int .i64 rs1, .int .i64 rs2, .int .u32 imm, .int .i64 csr, .string lb, .int .u32 wd, .bool raw, .int .i64 line], .string ⟨#[41]⟩, .string (bs l)] w fun e w' => e = .returned (.tuple #[.agg #[.int .i64 op, .int .i64 rd, .int .i64 rs1, .int .i64 rs2, .int .u32 imm, .int .i64 csr, .string lb, .int .u32 wd, .bool raw, .int .i64 line], .bool false]) ∧ Below w.heap.size w w' := by
  have HR : Hid (∀ w, Calls Tryz.prog 56 #[.string (bs l)] w fun e w' => e = .returned (.int .i64 (regN l)) ∧ w' = w) := fun w => rreg6_any l w hl
  have HN : Hid (∀ w, Calls Tryz.prog 26 #[.string (bs l)] w fun e w' => e = .returned (.tuple #[.int .u32 ((numW l).getD 0), .bool (numW l).isSome]) ∧ w' = w) := fun w => rnum6_any l w hl
  have hb := numW_bd l
  generalize regN l = R at *
  generalize (numW l).getD 0 = N at *
  generalize (numW l).isSome = K at *
  go_enter Tryz.func29, Tryz.ntmps29
  go_wp2_with (first
    | (go_at_call 56; refine (HR.out _).mono ?_; rintro e w' ⟨rfl, hw⟩; subst hw)
    | (go_at_call 26; refine (HN.out _).mono ?_; rintro e w' ⟨rfl, hw⟩; subst hw))
  refine bodyPost_ret (v := .tuple #[.agg #[.int .i64 op, .int .i64 rd, .int .i64 rs1, .int .i64 rs2, .int .u32 imm, .int .i64 csr, .string lb, .int .u32 wd, .bool raw, .int .i64 line], .bool false]) (by simp [results, Tryz.results29, go_sem, hx]) rfl ⟨rfl, ?_⟩
  exact ((Below.refl _ _).alloc (Nat.le_refl _) _).alloc (by simp) _

end Go.Proofs.YthgolbmngjdbeaaGreatDoor

/- Layer 2: the document's own Form, reg, signed, Ends, Loads, Stores; the program's Ends, Loads, Stores. -/
namespace Go.Proofs.YthgolbmngjdbeaaGreatDoor
open Go.RowKit
set_option linter.unusedVariables false

theorem neb {a b : Int} (h : a ≠ b) : (a == b) = false := by simpa using h

theorem op_segs (k : Nat) (h : k < 58) : k = 0 ∨ k = 1 ∨ k = 2 ∨ k = 3 ∨ k = 4 ∨ (5 ≤ k ∧ k ≤ 10) ∨ (11 ≤ k ∧ k ≤ 15) ∨ (16 ≤ k ∧ k ≤ 18) ∨ (19 ≤ k ∧ k ≤ 24) ∨ (25 ≤ k ∧ k ≤ 27) ∨ (28 ≤ k ∧ k ≤ 37) ∨ k = 38 ∨ k = 39 ∨ (40 ≤ k ∧ k ≤ 41) ∨ (42 ≤ k ∧ k ≤ 44) ∨ (45 ≤ k ∧ k ≤ 47) ∨ (48 ≤ k ∧ k ≤ 49) ∨ (50 ≤ k ∧ k ≤ 57) := by omega
theorem formZ_5 : ∀ k, k < 58 → 5 ≤ k → k ≤ 10 → formZ k = 4 := by decide +kernel
theorem formZ_11 : ∀ k, k < 58 → 11 ≤ k → k ≤ 15 → formZ k = 3 := by decide +kernel
theorem formZ_16 : ∀ k, k < 58 → 16 ≤ k → k ≤ 18 → formZ k = 5 := by decide +kernel
theorem formZ_19 : ∀ k, k < 58 → 19 ≤ k → k ≤ 24 → formZ k = 3 := by decide +kernel
theorem formZ_25 : ∀ k, k < 58 → 25 ≤ k → k ≤ 27 → formZ k = 7 := by decide +kernel
theorem formZ_28 : ∀ k, k < 58 → 28 ≤ k → k ≤ 37 → formZ k = 6 := by decide +kernel
theorem formZ_40 : ∀ k, k < 58 → 40 ≤ k → k ≤ 41 → formZ k = 0 := by decide +kernel
theorem formZ_42 : ∀ k, k < 58 → 42 ≤ k → k ≤ 44 → formZ k = 8 := by decide +kernel
theorem formZ_45 : ∀ k, k < 58 → 45 ≤ k → k ≤ 47 → formZ k = 9 := by decide +kernel
theorem formZ_48 : ∀ k, k < 58 → 48 ≤ k → k ≤ 49 → formZ k = 0 := by decide +kernel
theorem formZ_50 : ∀ k, k < 58 → 50 ≤ k → k ≤ 57 → formZ k = 6 := by decide +kernel

set_option maxHeartbeats 1000000 in
theorem rform_any (k : Nat) (hk : k < 58) (w : World) :
    Calls Tryz.prog 30 #[.int .i64 k] w fun e w' => e = .returned (.int .i64 (formZ k)) ∧ w' = w := by
  rcases op_segs k hk with rfl | rfl | rfl | rfl | rfl | hs | hs | hs | hs | hs | hs | rfl | rfl | hs | hs | hs | hs | hs
  · go_enter Tryz.func30, Tryz.ntmps30
    go_wp2
    go_ret
    exact ⟨rfl, rfl⟩
  · go_enter Tryz.func30, Tryz.ntmps30
    go_wp2
    go_ret
    exact ⟨rfl, rfl⟩
  · go_enter Tryz.func30, Tryz.ntmps30
    go_wp2
    go_ret
    exact ⟨rfl, rfl⟩
  · go_enter Tryz.func30, Tryz.ntmps30
    go_wp2
    go_ret
    exact ⟨rfl, rfl⟩
  · go_enter Tryz.func30, Tryz.ntmps30
    go_wp2
    go_ret
    exact ⟨rfl, rfl⟩
  · have hz := formZ_5 k hk hs.1 hs.2
    rw [hz]
    clear hz
    have e1 : ((k : Int) == 1) = false := neb (by omega)
    have e2 : ((k : Int) == 2) = false := neb (by omega)
    have e3 : ((k : Int) == 3) = false := neb (by omega)
    have e4 : ((k : Int) == 4) = false := neb (by omega)
    have e38 : ((k : Int) == 38) = false := neb (by omega)
    have e39 : ((k : Int) == 39) = false := neb (by omega)
    go_enter Tryz.func30, Tryz.ntmps30
    go_wp2
    go_ret
    exact ⟨rfl, rfl⟩
  · have hz := formZ_11 k hk hs.1 hs.2
    rw [hz]
    clear hz
    have e1 : ((k : Int) == 1) = false := neb (by omega)
    have e2 : ((k : Int) == 2) = false := neb (by omega)
    have e3 : ((k : Int) == 3) = false := neb (by omega)
    have e4 : ((k : Int) == 4) = false := neb (by omega)
    have e38 : ((k : Int) == 38) = false := neb (by omega)
    have e39 : ((k : Int) == 39) = false := neb (by omega)
    go_enter Tryz.func30, Tryz.ntmps30
    go_wp2
    go_ret
    exact ⟨rfl, rfl⟩
  · have hz := formZ_16 k hk hs.1 hs.2
    rw [hz]
    clear hz
    have e1 : ((k : Int) == 1) = false := neb (by omega)
    have e2 : ((k : Int) == 2) = false := neb (by omega)
    have e3 : ((k : Int) == 3) = false := neb (by omega)
    have e4 : ((k : Int) == 4) = false := neb (by omega)
    have e38 : ((k : Int) == 38) = false := neb (by omega)
    have e39 : ((k : Int) == 39) = false := neb (by omega)
    go_enter Tryz.func30, Tryz.ntmps30
    go_wp2
    go_ret
    exact ⟨rfl, rfl⟩
  · have hz := formZ_19 k hk hs.1 hs.2
    rw [hz]
    clear hz
    have e1 : ((k : Int) == 1) = false := neb (by omega)
    have e2 : ((k : Int) == 2) = false := neb (by omega)
    have e3 : ((k : Int) == 3) = false := neb (by omega)
    have e4 : ((k : Int) == 4) = false := neb (by omega)
    have e38 : ((k : Int) == 38) = false := neb (by omega)
    have e39 : ((k : Int) == 39) = false := neb (by omega)
    go_enter Tryz.func30, Tryz.ntmps30
    go_wp2
    go_ret
    exact ⟨rfl, rfl⟩
  · have hz := formZ_25 k hk hs.1 hs.2
    rw [hz]
    clear hz
    have e1 : ((k : Int) == 1) = false := neb (by omega)
    have e2 : ((k : Int) == 2) = false := neb (by omega)
    have e3 : ((k : Int) == 3) = false := neb (by omega)
    have e4 : ((k : Int) == 4) = false := neb (by omega)
    have e38 : ((k : Int) == 38) = false := neb (by omega)
    have e39 : ((k : Int) == 39) = false := neb (by omega)
    go_enter Tryz.func30, Tryz.ntmps30
    go_wp2
    go_ret
    exact ⟨rfl, rfl⟩
  · have hz := formZ_28 k hk hs.1 hs.2
    rw [hz]
    clear hz
    have e1 : ((k : Int) == 1) = false := neb (by omega)
    have e2 : ((k : Int) == 2) = false := neb (by omega)
    have e3 : ((k : Int) == 3) = false := neb (by omega)
    have e4 : ((k : Int) == 4) = false := neb (by omega)
    have e38 : ((k : Int) == 38) = false := neb (by omega)
    have e39 : ((k : Int) == 39) = false := neb (by omega)
    go_enter Tryz.func30, Tryz.ntmps30
    go_wp2
    go_ret
    exact ⟨rfl, rfl⟩
  · go_enter Tryz.func30, Tryz.ntmps30
    go_wp2
    go_ret
    exact ⟨rfl, rfl⟩
  · go_enter Tryz.func30, Tryz.ntmps30
    go_wp2
    go_ret
    exact ⟨rfl, rfl⟩
  · have hz := formZ_40 k hk hs.1 hs.2
    rw [hz]
    clear hz
    have e1 : ((k : Int) == 1) = false := neb (by omega)
    have e2 : ((k : Int) == 2) = false := neb (by omega)
    have e3 : ((k : Int) == 3) = false := neb (by omega)
    have e4 : ((k : Int) == 4) = false := neb (by omega)
    have e38 : ((k : Int) == 38) = false := neb (by omega)
    have e39 : ((k : Int) == 39) = false := neb (by omega)
    go_enter Tryz.func30, Tryz.ntmps30
    go_wp2
    go_ret
    exact ⟨rfl, rfl⟩
  · have hz := formZ_42 k hk hs.1 hs.2
    rw [hz]
    clear hz
    have e1 : ((k : Int) == 1) = false := neb (by omega)
    have e2 : ((k : Int) == 2) = false := neb (by omega)
    have e3 : ((k : Int) == 3) = false := neb (by omega)
    have e4 : ((k : Int) == 4) = false := neb (by omega)
    have e38 : ((k : Int) == 38) = false := neb (by omega)
    have e39 : ((k : Int) == 39) = false := neb (by omega)
    go_enter Tryz.func30, Tryz.ntmps30
    go_wp2
    go_ret
    exact ⟨rfl, rfl⟩
  · have hz := formZ_45 k hk hs.1 hs.2
    rw [hz]
    clear hz
    have e1 : ((k : Int) == 1) = false := neb (by omega)
    have e2 : ((k : Int) == 2) = false := neb (by omega)
    have e3 : ((k : Int) == 3) = false := neb (by omega)
    have e4 : ((k : Int) == 4) = false := neb (by omega)
    have e38 : ((k : Int) == 38) = false := neb (by omega)
    have e39 : ((k : Int) == 39) = false := neb (by omega)
    go_enter Tryz.func30, Tryz.ntmps30
    go_wp2
    go_ret
    exact ⟨rfl, rfl⟩
  · have hz := formZ_48 k hk hs.1 hs.2
    rw [hz]
    clear hz
    have e1 : ((k : Int) == 1) = false := neb (by omega)
    have e2 : ((k : Int) == 2) = false := neb (by omega)
    have e3 : ((k : Int) == 3) = false := neb (by omega)
    have e4 : ((k : Int) == 4) = false := neb (by omega)
    have e38 : ((k : Int) == 38) = false := neb (by omega)
    have e39 : ((k : Int) == 39) = false := neb (by omega)
    go_enter Tryz.func30, Tryz.ntmps30
    go_wp2
    go_ret
    exact ⟨rfl, rfl⟩
  · have hz := formZ_50 k hk hs.1 hs.2
    rw [hz]
    clear hz
    have e1 : ((k : Int) == 1) = false := neb (by omega)
    have e2 : ((k : Int) == 2) = false := neb (by omega)
    have e3 : ((k : Int) == 3) = false := neb (by omega)
    have e4 : ((k : Int) == 4) = false := neb (by omega)
    have e38 : ((k : Int) == 38) = false := neb (by omega)
    have e39 : ((k : Int) == 39) = false := neb (by omega)
    go_enter Tryz.func30, Tryz.ntmps30
    go_wp2
    go_ret
    exact ⟨rfl, rfl⟩

set_option maxHeartbeats 400000 in
theorem reg_any (n : Int) (has : Bool) (w : World) :
    Calls Tryz.prog 83 #[.int .i64 n, .bool has] w fun e w' => e = .returned (.bool (partB n has 31)) ∧ w' = w := by
  cases has
  · by_cases h0 : 0 ≤ n
    · by_cases h1 : n ≤ 31
      · go_enter Tryz.func83, Tryz.ntmps83
        go_wp2
        go_ret
        exact ⟨ret_bool rfl, rfl⟩
      · go_enter Tryz.func83, Tryz.ntmps83
        go_wp2
        go_ret
        exact ⟨ret_bool (by simp [partB]; omega), rfl⟩
    · go_enter Tryz.func83, Tryz.ntmps83
      go_wp2
      go_ret
      exact ⟨ret_bool (by simp [partB]; omega), rfl⟩
  · by_cases h0 : 0 ≤ n
    · by_cases h1 : n ≤ 31
      all_goals
        go_enter Tryz.func83, Tryz.ntmps83
        go_wp2
        go_ret
        refine ⟨?_, rfl⟩; first | (refine ret_bool (partB_t ?_); omega) | (refine ret_bool (partB_f ?_); omega)
    · go_enter Tryz.func83, Tryz.ntmps83
      go_wp2
      go_ret
      refine ⟨?_, rfl⟩; first | (refine ret_bool (partB_t ?_); omega) | (refine ret_bool (partB_f ?_); omega)

theorem tmod2 (x : Int) (h0 : 0 ≤ x) (h1 : x < 4294967296) : (signedOf x).tmod 2 = 0 ↔ x % 2 = 0 := by
  constructor
  · intro h
    have := Int.dvd_of_tmod_eq_zero h
    unfold signedOf at this
    split at this <;> omega
  · intro h
    refine Int.tmod_eq_zero_of_dvd ?_
    unfold signedOf
    split <;> omega

set_option maxHeartbeats 400000 in
theorem rsgn21 (x : Int) (h0 : 0 ≤ x) (h1 : x < 4294967296) (w : World) :
    Calls Tryz.prog 84 #[.int .u32 x, .int .i64 21, .int .i64 2] w fun e w' => e = .returned (.bool (evenB x && sgB x 1048576)) ∧ w' = w := by
  have hb := signedOf_bd x h0 h1
  have hm := tmod2 x h0 h1
  have hp : pw 20 = 1048576 := by decide
  have HM : Hid ((signedOf x).tmod 2 = 0 ↔ x % 2 = 0) := hm
  clear hm
  by_cases c0 : -1048576 ≤ signedOf x
  · by_cases c1 : signedOf x < 1048576
    · have hs : sgB x 1048576 = true := sgB_t (by omega)
      go_enter Tryz.func84, Tryz.ntmps84
      go_wp2_with (first | (go_at_call 97; refine (rsigned_any _ _ h0 h1).mono ?_; rintro e w' ⟨rfl, hw⟩; have hw := hw.symm; subst hw) | (go_at_call 98; refine (power_any _ _ (by omega) (by omega)).mono ?_; rintro e w' ⟨rfl, hw⟩; have hw := hw.symm; subst hw; try rw [hp]))
      go_ret
      exact ⟨ret_bool (by rw [hs, Bool.and_true]; unfold evenB; rw [decide_eq_decide.2 HM.out.symm]; rfl), rfl⟩
    · have hs : sgB x 1048576 = false := sgB_f (by omega)
      go_enter Tryz.func84, Tryz.ntmps84
      go_wp2_with (first | (go_at_call 97; refine (rsigned_any _ _ h0 h1).mono ?_; rintro e w' ⟨rfl, hw⟩; have hw := hw.symm; subst hw) | (go_at_call 98; refine (power_any _ _ (by omega) (by omega)).mono ?_; rintro e w' ⟨rfl, hw⟩; have hw := hw.symm; subst hw; try rw [hp]))
      go_ret
      exact ⟨ret_bool (by first | rfl | (rw [hs]; simp)), rfl⟩
  · have hs : sgB x 1048576 = false := sgB_f (by omega)
    go_enter Tryz.func84, Tryz.ntmps84
    go_wp2_with (first | (go_at_call 97; refine (rsigned_any _ _ h0 h1).mono ?_; rintro e w' ⟨rfl, hw⟩; have hw := hw.symm; subst hw) | (go_at_call 98; refine (power_any _ _ (by omega) (by omega)).mono ?_; rintro e w' ⟨rfl, hw⟩; have hw := hw.symm; subst hw; try rw [hp]))
    go_ret
    exact ⟨ret_bool (by first | rfl | (rw [hs]; try simp)), rfl⟩

set_option maxHeartbeats 400000 in
theorem rsgn12 (x : Int) (h0 : 0 ≤ x) (h1 : x < 4294967296) (w : World) :
    Calls Tryz.prog 84 #[.int .u32 x, .int .i64 12, .int .i64 1] w fun e w' => e = .returned (.bool (sgB x 2048)) ∧ w' = w := by
  have hb := signedOf_bd x h0 h1
  have hm := tmod2 x h0 h1
  have hp : pw 11 = 2048 := by decide
  have HM : Hid ((signedOf x).tmod 2 = 0 ↔ x % 2 = 0) := hm
  clear hm
  by_cases c0 : -2048 ≤ signedOf x
  · by_cases c1 : signedOf x < 2048
    all_goals
      go_enter Tryz.func84, Tryz.ntmps84
      go_wp2_with (first | (go_at_call 97; refine (rsigned_any _ _ h0 h1).mono ?_; rintro e w' ⟨rfl, hw⟩; have hw := hw.symm; subst hw) | (go_at_call 98; refine (power_any _ _ (by omega) (by omega)).mono ?_; rintro e w' ⟨rfl, hw⟩; have hw := hw.symm; subst hw; try rw [hp]))
      go_ret
      refine ⟨?_, rfl⟩; first | (refine ret_bool (sgB_t ?_); omega) | (refine ret_bool (sgB_f ?_); omega)
  · have hs : sgB x 2048 = false := sgB_f (by omega)
    go_enter Tryz.func84, Tryz.ntmps84
    go_wp2_with (first | (go_at_call 97; refine (rsigned_any _ _ h0 h1).mono ?_; rintro e w' ⟨rfl, hw⟩; have hw := hw.symm; subst hw) | (go_at_call 98; refine (power_any _ _ (by omega) (by omega)).mono ?_; rintro e w' ⟨rfl, hw⟩; have hw := hw.symm; subst hw; try rw [hp]))
    go_ret
    exact ⟨ret_bool (by first | rfl | (rw [hs]; try simp)), rfl⟩

set_option maxHeartbeats 400000 in
theorem rsgn13 (x : Int) (h0 : 0 ≤ x) (h1 : x < 4294967296) (w : World) :
    Calls Tryz.prog 84 #[.int .u32 x, .int .i64 13, .int .i64 2] w fun e w' => e = .returned (.bool (evenB x && sgB x 4096)) ∧ w' = w := by
  have hb := signedOf_bd x h0 h1
  have hm := tmod2 x h0 h1
  have hp : pw 12 = 4096 := by decide
  have HM : Hid ((signedOf x).tmod 2 = 0 ↔ x % 2 = 0) := hm
  clear hm
  by_cases c0 : -4096 ≤ signedOf x
  · by_cases c1 : signedOf x < 4096
    · have hs : sgB x 4096 = true := sgB_t (by omega)
      go_enter Tryz.func84, Tryz.ntmps84
      go_wp2_with (first | (go_at_call 97; refine (rsigned_any _ _ h0 h1).mono ?_; rintro e w' ⟨rfl, hw⟩; have hw := hw.symm; subst hw) | (go_at_call 98; refine (power_any _ _ (by omega) (by omega)).mono ?_; rintro e w' ⟨rfl, hw⟩; have hw := hw.symm; subst hw; try rw [hp]))
      go_ret
      exact ⟨ret_bool (by rw [hs, Bool.and_true]; unfold evenB; rw [decide_eq_decide.2 HM.out.symm]; rfl), rfl⟩
    · have hs : sgB x 4096 = false := sgB_f (by omega)
      go_enter Tryz.func84, Tryz.ntmps84
      go_wp2_with (first | (go_at_call 97; refine (rsigned_any _ _ h0 h1).mono ?_; rintro e w' ⟨rfl, hw⟩; have hw := hw.symm; subst hw) | (go_at_call 98; refine (power_any _ _ (by omega) (by omega)).mono ?_; rintro e w' ⟨rfl, hw⟩; have hw := hw.symm; subst hw; try rw [hp]))
      go_ret
      exact ⟨ret_bool (by first | rfl | (rw [hs]; simp)), rfl⟩
  · have hs : sgB x 4096 = false := sgB_f (by omega)
    go_enter Tryz.func84, Tryz.ntmps84
    go_wp2_with (first | (go_at_call 97; refine (rsigned_any _ _ h0 h1).mono ?_; rintro e w' ⟨rfl, hw⟩; have hw := hw.symm; subst hw) | (go_at_call 98; refine (power_any _ _ (by omega) (by omega)).mono ?_; rintro e w' ⟨rfl, hw⟩; have hw := hw.symm; subst hw; try rw [hp]))
    go_ret
    exact ⟨ret_bool (by first | rfl | (rw [hs]; try simp)), rfl⟩

def endsB (n : Int) : Bool := decide (n ≤ 0 ∨ 58 ≤ n ∨ (3 ≤ n ∧ n ≤ 10) ∨ (39 ≤ n ∧ n ≤ 49))
theorem endsB_t {n : Int} (h : n ≤ 0 ∨ 58 ≤ n ∨ (3 ≤ n ∧ n ≤ 10) ∨ (39 ≤ n ∧ n ≤ 49)) : endsB n = true := by simpa [endsB] using h
theorem endsB_f {n : Int} (h : ¬ (n ≤ 0 ∨ 58 ≤ n ∨ (3 ≤ n ∧ n ≤ 10) ∨ (39 ≤ n ∧ n ≤ 49))) : endsB n = false := by unfold endsB; exact decide_eq_false h

def loadsZ (n : Int) : Int := if n = 11 ∨ n = 14 then 1 else if n = 12 ∨ n = 15 then 2 else if n = 13 then 4 else 0
def storesZ (n : Int) : Int := if n = 16 then 1 else if n = 17 then 2 else if n = 18 then 4 else 0

set_option maxHeartbeats 400000 in
theorem loads_any (n : Int) (w : World) :
    Calls Tryz.prog 88 #[.int .i64 n] w fun e w' => e = .returned (.int .i64 (loadsZ n)) ∧ w' = w := by
  have hs : n < 11 ∨ n = 11 ∨ n = 12 ∨ n = 13 ∨ n = 14 ∨ n = 15 ∨ 15 < n := by omega
  rcases hs with hs | rfl | rfl | rfl | rfl | rfl | hs
  · have e11 : (n == 11) = false := neb (by omega)
    have e12 : (n == 12) = false := neb (by omega)
    have e13 : (n == 13) = false := neb (by omega)
    have e14 : (n == 14) = false := neb (by omega)
    have e15 : (n == 15) = false := neb (by omega)
    go_enter Tryz.func88, Tryz.ntmps88
    go_wp2
    go_ret
    exact ⟨ret_int (by unfold loadsZ; first | rfl | (repeat rw [if_neg (by omega)])), rfl⟩
  · go_enter Tryz.func88, Tryz.ntmps88
    go_wp2
    go_ret
    exact ⟨ret_int (by unfold loadsZ; first | rfl | (repeat rw [if_neg (by omega)])), rfl⟩
  · go_enter Tryz.func88, Tryz.ntmps88
    go_wp2
    go_ret
    exact ⟨ret_int (by unfold loadsZ; first | rfl | (repeat rw [if_neg (by omega)])), rfl⟩
  · go_enter Tryz.func88, Tryz.ntmps88
    go_wp2
    go_ret
    exact ⟨ret_int (by unfold loadsZ; first | rfl | (repeat rw [if_neg (by omega)])), rfl⟩
  · go_enter Tryz.func88, Tryz.ntmps88
    go_wp2
    go_ret
    exact ⟨ret_int (by unfold loadsZ; first | rfl | (repeat rw [if_neg (by omega)])), rfl⟩
  · go_enter Tryz.func88, Tryz.ntmps88
    go_wp2
    go_ret
    exact ⟨ret_int (by unfold loadsZ; first | rfl | (repeat rw [if_neg (by omega)])), rfl⟩
  · have e11 : (n == 11) = false := neb (by omega)
    have e12 : (n == 12) = false := neb (by omega)
    have e13 : (n == 13) = false := neb (by omega)
    have e14 : (n == 14) = false := neb (by omega)
    have e15 : (n == 15) = false := neb (by omega)
    go_enter Tryz.func88, Tryz.ntmps88
    go_wp2
    go_ret
    exact ⟨ret_int (by unfold loadsZ; first | rfl | (repeat rw [if_neg (by omega)])), rfl⟩

end Go.Proofs.YthgolbmngjdbeaaGreatDoor

/- Layer 6: rows of strings; the document's own shape and fill. -/
namespace Go.Proofs.YthgolbmngjdbeaaGreatDoor
open Go.RowKit
set_option linter.unusedVariables false
set_option linter.unusedSimpArgs false

/-- A slice of strings, as what it reads as. -/
def IsStrs (w : World) (v : Value) (ls : List (List UInt8)) : Prop :=
  ∃ a c, v = .slice a ls.length c ∧ (ls.length = 0 ∨ ∃ g o, a = some ⟨g, o, none⟩ ∧ ∀ i, i < ls.length → w.cell? ⟨g, o + i, none⟩ = some (.string (bs (ls.getD i []))))
theorem scell_on {W w1 : World} {b o : Nat} {p : Option Nat} {v : Value} (hb : Below W.heap.size W w1) (h : W.cell? ⟨b, o, p⟩ = some v) : w1.cell? ⟨b, o, p⟩ = some v := by
  rw [hb.cell (p := ⟨b, o, p⟩) (lt_of_cell h)]; exact h
theorem IsStrs.on {W w1 : World} {v : Value} {ls : List (List UInt8)} (h : IsStrs W v ls) (hb : Below W.heap.size W w1) : IsStrs w1 v ls := by
  obtain ⟨a, c, hv, h⟩ := h
  refine ⟨a, c, hv, ?_⟩
  rcases h with h | ⟨g, o, ha, hc⟩
  · exact .inl h
  · exact .inr ⟨g, o, ha, fun i hi => scell_on hb (hc i hi)⟩
theorem IsStrs.cell {w : World} {v : Value} {ls : List (List UInt8)} (h : IsStrs w v ls) {i : Nat} (hi : i < ls.length) : ∃ g o c, v = .slice (some ⟨g, o, none⟩) ls.length c ∧ g < w.heap.size ∧ w.cell? ⟨g, o + i, none⟩ = some (.string (bs (ls.getD i []))) := by
  obtain ⟨a, c, hv, h⟩ := h
  rcases h with h | ⟨g, o, ha, hc⟩
  · omega
  · subst ha
    exact ⟨g, o, c, hv, lt_of_cell (hc i hi), hc i hi⟩
theorem IsStrs.all {w : World} {v : Value} {ls : List (List UInt8)} (h : IsStrs w v ls) (hn : 0 < ls.length) : ∃ g o c, v = .slice (some ⟨g, o, none⟩) ls.length c ∧ g < w.heap.size ∧ ∀ i, i < ls.length → w.cell? ⟨g, o + i, none⟩ = some (.string (bs (ls.getD i []))) := by
  obtain ⟨a, c, hv, h⟩ := h
  rcases h with h | ⟨g, o, ha, hc⟩
  · omega
  · subst ha
    exact ⟨g, o, c, hv, lt_of_cell (hc 0 hn), hc⟩
theorem isStrs_new (w : World) (ls : List (List UInt8)) (t : TypeId) (h : ls ≠ []) : IsStrs (w.alloc (.cells (ls.map sV).toArray t)) (.slice (some ⟨w.heap.size, 0, none⟩) ls.length ls.length) ls := by
  refine ⟨_, _, rfl, .inr ⟨_, _, rfl, fun i hi => ?_⟩⟩
  rw [World.cell?_alloc_at _ _ _ _ rfl]
  simp [hi, sV]

set_option maxRecDepth 100000 in
set_option maxHeartbeats 1000000 in
theorem rshape_any (k : Nat) (hk : k < 58) (w : World) : Calls Tryz.prog 28 #[.int .i64 k] w fun e w' => ∃ v, e = .returned v ∧ IsStrs w' v (shapeL k) ∧ Below w.heap.size w w' := by
  have HK : Hid (k < 58) := hk
  have hz : formZ k = 0 ∨ formZ k = 1 ∨ formZ k = 2 ∨ formZ k = 3 ∨ formZ k = 4 ∨ formZ k = 5 ∨ formZ k = 6 ∨ formZ k = 7 ∨ formZ k = 8 ∨ formZ k = 9 := by
    have := formZ_lt k hk; omega
  clear hk
  have hb : ∀ o, Below w.heap.size w (w.alloc o) := fun o => (Below.refl _ _).alloc (Nat.le_refl _) _
  have HB := Lib.hid hb
  clear hb
  rcases hz with hz | hz | hz | hz | hz | hz | hz | hz | hz | hz
  · have HS : Hid (shapeL k = []) := by show shapeL k = _; unfold shapeL; rw [hz]; rfl
    go_enter Tryz.func28, Tryz.ntmps28
    go_wp2_with (go_at_call 30; refine (rform_any k HK.out _).mono ?_; rintro e w' ⟨rfl, hw⟩; have hw := hw.symm; subst hw)
    go_ret
    rw [HS.out]
    exact ⟨_, rfl, ⟨none, 0, rfl, .inl rfl⟩, Below.refl _ _⟩
  · have HS : Hid (shapeL k = [kRd, [44], kNum]) := by show shapeL k = _; unfold shapeL; rw [hz]; rfl
    go_enter Tryz.func28, Tryz.ntmps28
    go_wp2_with (go_at_call 30; refine (rform_any k HK.out _).mono ?_; rintro e w' ⟨rfl, hw⟩; have hw := hw.symm; subst hw)
    go_ret
    rw [HS.out]
    exact ⟨_, rfl, isStrs_new w [kRd, [44], kNum] _ (by simp), HB.out _⟩
  · have HS : Hid (shapeL k = [kRd, [44], kTgt]) := by show shapeL k = _; unfold shapeL; rw [hz]; rfl
    go_enter Tryz.func28, Tryz.ntmps28
    go_wp2_with (go_at_call 30; refine (rform_any k HK.out _).mono ?_; rintro e w' ⟨rfl, hw⟩; have hw := hw.symm; subst hw)
    go_ret
    rw [HS.out]
    exact ⟨_, rfl, isStrs_new w [kRd, [44], kTgt] _ (by simp), HB.out _⟩
  · by_cases c : k ≤ 15
    · have HS : Hid (shapeL k = [kRd, [44], kNum, [40], kRs1, [41] ]) := by show shapeL k = _; unfold shapeL; rw [hz]; simp [c]
      have hc : (k : Int) ≤ 15 := by omega
      go_enter Tryz.func28, Tryz.ntmps28
      go_wp2_with (go_at_call 30; refine (rform_any k HK.out _).mono ?_; rintro e w' ⟨rfl, hw⟩; have hw := hw.symm; subst hw)
      go_ret
      rw [HS.out]
      exact ⟨_, rfl, isStrs_new w [kRd, [44], kNum, [40], kRs1, [41] ] _ (by simp), HB.out _⟩
    · have HS : Hid (shapeL k = [kRd, [44], kRs1, [44], kNum]) := by show shapeL k = _; unfold shapeL; rw [hz]; simp [c]
      have hc : ¬ (k : Int) ≤ 15 := by omega
      go_enter Tryz.func28, Tryz.ntmps28
      go_wp2_with (go_at_call 30; refine (rform_any k HK.out _).mono ?_; rintro e w' ⟨rfl, hw⟩; have hw := hw.symm; subst hw)
      go_ret
      rw [HS.out]
      exact ⟨_, rfl, isStrs_new w [kRd, [44], kRs1, [44], kNum] _ (by simp), HB.out _⟩
  · have HS : Hid (shapeL k = [kRs1, [44], kRs2, [44], kTgt]) := by show shapeL k = _; unfold shapeL; rw [hz]; rfl
    go_enter Tryz.func28, Tryz.ntmps28
    go_wp2_with (go_at_call 30; refine (rform_any k HK.out _).mono ?_; rintro e w' ⟨rfl, hw⟩; have hw := hw.symm; subst hw)
    go_ret
    rw [HS.out]
    exact ⟨_, rfl, isStrs_new w [kRs1, [44], kRs2, [44], kTgt] _ (by simp), HB.out _⟩
  · have HS : Hid (shapeL k = [kRs2, [44], kNum, [40], kRs1, [41] ]) := by show shapeL k = _; unfold shapeL; rw [hz]; rfl
    go_enter Tryz.func28, Tryz.ntmps28
    go_wp2_with (go_at_call 30; refine (rform_any k HK.out _).mono ?_; rintro e w' ⟨rfl, hw⟩; have hw := hw.symm; subst hw)
    go_ret
    rw [HS.out]
    exact ⟨_, rfl, isStrs_new w [kRs2, [44], kNum, [40], kRs1, [41] ] _ (by simp), HB.out _⟩
  · have HS : Hid (shapeL k = [kRd, [44], kRs1, [44], kRs2]) := by show shapeL k = _; unfold shapeL; rw [hz]; rfl
    go_enter Tryz.func28, Tryz.ntmps28
    go_wp2_with (go_at_call 30; refine (rform_any k HK.out _).mono ?_; rintro e w' ⟨rfl, hw⟩; have hw := hw.symm; subst hw)
    go_ret
    rw [HS.out]
    exact ⟨_, rfl, isStrs_new w [kRd, [44], kRs1, [44], kRs2] _ (by simp), HB.out _⟩
  · have HS : Hid (shapeL k = [kRd, [44], kRs1, [44], kNum]) := by show shapeL k = _; unfold shapeL; rw [hz]; rfl
    go_enter Tryz.func28, Tryz.ntmps28
    go_wp2_with (go_at_call 30; refine (rform_any k HK.out _).mono ?_; rintro e w' ⟨rfl, hw⟩; have hw := hw.symm; subst hw)
    go_ret
    rw [HS.out]
    exact ⟨_, rfl, isStrs_new w [kRd, [44], kRs1, [44], kNum] _ (by simp), HB.out _⟩
  · have HS : Hid (shapeL k = [kRd, [44], kCsr, [44], kRs1]) := by show shapeL k = _; unfold shapeL; rw [hz]; rfl
    go_enter Tryz.func28, Tryz.ntmps28
    go_wp2_with (go_at_call 30; refine (rform_any k HK.out _).mono ?_; rintro e w' ⟨rfl, hw⟩; have hw := hw.symm; subst hw)
    go_ret
    rw [HS.out]
    exact ⟨_, rfl, isStrs_new w [kRd, [44], kCsr, [44], kRs1] _ (by simp), HB.out _⟩
  · have HS : Hid (shapeL k = [kRd, [44], kCsr, [44], kNum]) := by show shapeL k = _; unfold shapeL; rw [hz]; rfl
    go_enter Tryz.func28, Tryz.ntmps28
    go_wp2_with (go_at_call 30; refine (rform_any k HK.out _).mono ?_; rintro e w' ⟨rfl, hw⟩; have hw := hw.symm; subst hw)
    go_ret
    rw [HS.out]
    exact ⟨_, rfl, isStrs_new w [kRd, [44], kCsr, [44], kNum] _ (by simp), HB.out _⟩

/-- An item as a value. -/
def itV (x : It) (line : Int) : Value := .agg #[.int .i64 x.1, .int .i64 x.2.1, .int .i64 x.2.2.1, .int .i64 x.2.2.2.1, .int .u32 x.2.2.2.2.1, .int .i64 x.2.2.2.2.2.1, .string (bs x.2.2.2.2.2.2.1), .int .u32 x.2.2.2.2.2.2.2.1, .bool x.2.2.2.2.2.2.2.2, .int .i64 line]
def kinds9 : List (List UInt8) := [kRd, kRs1, kRs2, kNum, kCsr, kTgt, [44], [40], [41] ]

theorem opt_map {o : Option Int} {f : Int → It} {e : Ending} {line : Int} (he : e = .returned (.tuple #[itV (f (o.getD 0)) line, .bool o.isSome])) : ∃ y b, e = .returned (.tuple #[itV y line, .bool b]) ∧ (b = true → o.map f = some y) ∧ (b = false → o.map f = none) := by
  cases o with
  | none => exact ⟨f 0, false, he, (fun h => by cases h), fun _ => rfl⟩
  | some n => exact ⟨f n, true, he, fun _ => rfl, fun h => by cases h⟩
theorem if_dec {c : Prop} [Decidable c] {z : It} {e : Ending} {line : Int} (he : e = .returned (.tuple #[itV z line, .bool (decide c)])) : ∃ y b, e = .returned (.tuple #[itV y line, .bool b]) ∧ (b = true → (if c then some z else none) = some y) ∧ (b = false → (if c then some z else none) = none) := by
  refine ⟨z, decide c, he, fun h => ?_, fun h => ?_⟩
  · rw [if_pos (of_decide_eq_true h)]
  · rw [if_neg (of_decide_eq_false h)]

theorem rfill_any (x : It) (what s : List UInt8) (line : Int) (w : World) (hw : what ∈ kinds9) (hl : s.length ≤ 70000) :
    Calls Tryz.prog 29 #[itV x line, .string (bs what), .string (bs s)] w fun e w' => (∃ y b, e = .returned (.tuple #[itV y line, .bool b]) ∧ (b = true → fillL x what s = some y) ∧ (b = false → fillL x what s = none)) ∧ Below w.heap.size w w' := by
  have hs : ∀ c : UInt8, (bs s).toList = [c] ↔ s = [c] := fun c => by
    rw [show (bs s).toList = s from by simp [bs, ByteArray.toList_eq]]
  simp only [kinds9, List.mem_cons, List.not_mem_nil, or_false] at hw
  rcases hw with rfl | rfl | rfl | rfl | rfl | rfl | rfl | rfl | rfl
  · refine (fill_rd s x.1 x.2.1 x.2.2.1 x.2.2.2.1 x.2.2.2.2.1 x.2.2.2.2.2.1 (bs x.2.2.2.2.2.2.1) x.2.2.2.2.2.2.2.1 x.2.2.2.2.2.2.2.2 line w hl).mono ?_
    rintro e w' ⟨he, hb⟩
    refine ⟨?_, hb⟩
    unfold fillL
    rw [if_pos rfl]
    exact if_dec (z := (x.1, regN s, x.2.2)) he
  · refine (fill_rs1 s x.1 x.2.1 x.2.2.1 x.2.2.2.1 x.2.2.2.2.1 x.2.2.2.2.2.1 (bs x.2.2.2.2.2.2.1) x.2.2.2.2.2.2.2.1 x.2.2.2.2.2.2.2.2 line w hl).mono ?_
    rintro e w' ⟨he, hb⟩
    refine ⟨?_, hb⟩
    unfold fillL
    rw [if_neg (by decide), if_pos rfl]
    exact if_dec (z := (x.1, x.2.1, regN s, x.2.2.2)) he
  · refine (fill_rs2 s x.1 x.2.1 x.2.2.1 x.2.2.2.1 x.2.2.2.2.1 x.2.2.2.2.2.1 (bs x.2.2.2.2.2.2.1) x.2.2.2.2.2.2.2.1 x.2.2.2.2.2.2.2.2 line w hl).mono ?_
    rintro e w' ⟨he, hb⟩
    refine ⟨?_, hb⟩
    unfold fillL
    rw [if_neg (by decide), if_neg (by decide), if_pos rfl]
    exact if_dec (z := (x.1, x.2.1, x.2.2.1, regN s, x.2.2.2.2)) he
  · refine (fill_number s x.1 x.2.1 x.2.2.1 x.2.2.2.1 x.2.2.2.2.1 x.2.2.2.2.2.1 (bs x.2.2.2.2.2.2.1) x.2.2.2.2.2.2.2.1 x.2.2.2.2.2.2.2.2 line w hl).mono ?_
    rintro e w' ⟨he, hb⟩
    refine ⟨?_, hb⟩
    unfold fillL
    rw [if_neg (by decide), if_neg (by decide), if_neg (by decide), if_pos rfl]
    exact opt_map (f := fun n => (x.1, x.2.1, x.2.2.1, x.2.2.2.1, n, x.2.2.2.2.2)) he
  · refine (fill_csr s x.1 x.2.1 x.2.2.1 x.2.2.2.1 x.2.2.2.2.1 x.2.2.2.2.2.1 (bs x.2.2.2.2.2.2.1) x.2.2.2.2.2.2.2.1 x.2.2.2.2.2.2.2.2 line w hl).mono ?_
    rintro e w' ⟨he, hb⟩
    refine ⟨?_, hb⟩
    unfold fillL
    rw [if_neg (by decide), if_neg (by decide), if_neg (by decide), if_neg (by decide), if_pos rfl]
    exact opt_map (f := fun n => (x.1, x.2.1, x.2.2.1, x.2.2.2.1, x.2.2.2.2.1, n, x.2.2.2.2.2.2)) he
  · cases hn : nameB s with
    | true =>
      refine (fill_target_name s x.1 x.2.1 x.2.2.1 x.2.2.2.1 x.2.2.2.2.1 x.2.2.2.2.2.1 (bs x.2.2.2.2.2.2.1) x.2.2.2.2.2.2.2.1 x.2.2.2.2.2.2.2.2 line w hl hn).mono ?_
      rintro e w' ⟨he, hb⟩
      refine ⟨?_, hb⟩
      unfold fillL
      rw [if_neg (by decide), if_neg (by decide), if_neg (by decide), if_neg (by decide), if_neg (by decide), if_pos rfl, hn, if_pos rfl]
      exact ⟨(x.1, x.2.1, x.2.2.1, x.2.2.2.1, x.2.2.2.2.1, x.2.2.2.2.2.1, s, x.2.2.2.2.2.2.2), true, he, fun _ => rfl, fun h => by cases h⟩
    | false =>
      refine (fill_target_num s x.1 x.2.1 x.2.2.1 x.2.2.2.1 x.2.2.2.2.1 x.2.2.2.2.2.1 (bs x.2.2.2.2.2.2.1) x.2.2.2.2.2.2.2.1 x.2.2.2.2.2.2.2.2 line w hl hn).mono ?_
      rintro e w' ⟨he, hb⟩
      refine ⟨?_, hb⟩
      unfold fillL
      rw [if_neg (by decide), if_neg (by decide), if_neg (by decide), if_neg (by decide), if_neg (by decide), if_pos rfl, hn, if_neg (by decide)]
      exact opt_map (f := fun n => (x.1, x.2.1, x.2.2.1, x.2.2.2.1, n, x.2.2.2.2.2)) he
  · by_cases hc : s = [44]
    · subst hc
      refine (fill_comma_yes x.1 x.2.1 x.2.2.1 x.2.2.2.1 x.2.2.2.2.1 x.2.2.2.2.2.1 (bs x.2.2.2.2.2.2.1) x.2.2.2.2.2.2.2.1 x.2.2.2.2.2.2.2.2 line w).mono ?_
      rintro e w' ⟨he, hb⟩
      refine ⟨⟨x, true, he, fun _ => ?_, fun h => by cases h⟩, hb⟩
      unfold fillL
      rw [if_neg (by decide), if_neg (by decide), if_neg (by decide), if_neg (by decide), if_neg (by decide), if_neg (by decide), if_pos rfl]
    · refine (fill_comma_no s x.1 x.2.1 x.2.2.1 x.2.2.2.1 x.2.2.2.2.1 x.2.2.2.2.2.1 (bs x.2.2.2.2.2.2.1) x.2.2.2.2.2.2.2.1 x.2.2.2.2.2.2.2.2 line w hl (fun h => hc ((hs 44).1 h))).mono ?_
      rintro e w' ⟨he, hb⟩
      refine ⟨⟨x, false, he, (fun h => by cases h), fun _ => ?_⟩, hb⟩
      unfold fillL
      rw [if_neg (by decide), if_neg (by decide), if_neg (by decide), if_neg (by decide), if_neg (by decide), if_neg (by decide), if_neg hc]
  · by_cases hc : s = [40]
    · subst hc
      refine (fill_open_yes x.1 x.2.1 x.2.2.1 x.2.2.2.1 x.2.2.2.2.1 x.2.2.2.2.2.1 (bs x.2.2.2.2.2.2.1) x.2.2.2.2.2.2.2.1 x.2.2.2.2.2.2.2.2 line w).mono ?_
      rintro e w' ⟨he, hb⟩
      refine ⟨⟨x, true, he, fun _ => ?_, fun h => by cases h⟩, hb⟩
      unfold fillL
      rw [if_neg (by decide), if_neg (by decide), if_neg (by decide), if_neg (by decide), if_neg (by decide), if_neg (by decide), if_pos rfl]
    · refine (fill_open_no s x.1 x.2.1 x.2.2.1 x.2.2.2.1 x.2.2.2.2.1 x.2.2.2.2.2.1 (bs x.2.2.2.2.2.2.1) x.2.2.2.2.2.2.2.1 x.2.2.2.2.2.2.2.2 line w hl (fun h => hc ((hs 40).1 h))).mono ?_
      rintro e w' ⟨he, hb⟩
      refine ⟨⟨x, false, he, (fun h => by cases h), fun _ => ?_⟩, hb⟩
      unfold fillL
      rw [if_neg (by decide), if_neg (by decide), if_neg (by decide), if_neg (by decide), if_neg (by decide), if_neg (by decide), if_neg hc]
  · by_cases hc : s = [41]
    · subst hc
      refine (fill_close_yes x.1 x.2.1 x.2.2.1 x.2.2.2.1 x.2.2.2.2.1 x.2.2.2.2.2.1 (bs x.2.2.2.2.2.2.1) x.2.2.2.2.2.2.2.1 x.2.2.2.2.2.2.2.2 line w).mono ?_
      rintro e w' ⟨he, hb⟩
      refine ⟨⟨x, true, he, fun _ => ?_, fun h => by cases h⟩, hb⟩
      unfold fillL
      rw [if_neg (by decide), if_neg (by decide), if_neg (by decide), if_neg (by decide), if_neg (by decide), if_neg (by decide), if_pos rfl]
    · refine (fill_close_no s x.1 x.2.1 x.2.2.1 x.2.2.2.1 x.2.2.2.2.1 x.2.2.2.2.2.1 (bs x.2.2.2.2.2.2.1) x.2.2.2.2.2.2.2.1 x.2.2.2.2.2.2.2.2 line w hl (fun h => hc ((hs 41).1 h))).mono ?_
      rintro e w' ⟨he, hb⟩
      refine ⟨⟨x, false, he, (fun h => by cases h), fun _ => ?_⟩, hb⟩
      unfold fillL
      rw [if_neg (by decide), if_neg (by decide), if_neg (by decide), if_neg (by decide), if_neg (by decide), if_neg (by decide), if_neg hc]
end Go.Proofs.YthgolbmngjdbeaaGreatDoor

/- Layer 2: what Op answers of any text. -/
namespace Go.Proofs.YthgolbmngjdbeaaGreatDoor
open Go.RowKit
set_option linter.unusedVariables false

set_option maxHeartbeats 400000 in
theorem op_yes (k : Nat) (hk : k < 58) (s : ByteArray) (hs : nameS k = s) (hn : ∀ j, j < k → ((nameS j).toList == s.toList) = false) (w : World) (ht : NameTab w) :
    Calls Tryz.prog 37 #[.string s] w fun e w' => e = .returned (.tuple #[.int .i64 k, .int .i64 0]) ∧ w' = w := by
  have HN : Hid (∀ j, j < k → ((nameS j).toList == s.toList) = false) := hn
  have HT : Hid (NameTab w) := ht
  clear hn ht
  have hself : ((nameS k).toList == s.toList) = true := by rw [hs]; exact beq_self_eq_true _
  clear hs
  go_enter Tryz.func37, Tryz.ntmps37
  go_wp2
  go_loop [5] (fun i => ∃ j : Nat, j ≤ k ∧ i = .int .i64 j) (fun i => k - (intOf i).toNat)
  case atStart => exact ⟨0, Nat.zero_le _, rfl⟩
  case round =>
    obtain ⟨j, hj, rfl⟩ := hrel
    have hc := HT.out j (by omega)
    by_cases hlt : j < k
    · have hne := HN.out j hlt
      go_wp2
      go_round
      case rel => exact ⟨j + 1, by omega, by go_num⟩
      case measure => simp [intOf]; omega
    · obtain rfl : j = k := by omega
      go_wp2
      go_ret2
      exact ⟨rfl, rfl⟩

set_option maxHeartbeats 400000 in
theorem op_no (s : ByteArray) (hn : ∀ j, j < 58 → ((nameS j).toList == s.toList) = false) (w : World) (ht : NameTab w) :
    Calls Tryz.prog 37 #[.string s] w fun e w' => e = .returned (.tuple #[.int .i64 0, .int .i64 8]) ∧ w' = w := by
  have HN : Hid (∀ j, j < 58 → ((nameS j).toList == s.toList) = false) := hn
  have HT : Hid (NameTab w) := ht
  clear hn ht
  go_enter Tryz.func37, Tryz.ntmps37
  go_wp2
  go_loop [5] (fun i => ∃ j : Nat, j ≤ 58 ∧ i = .int .i64 j) (fun i => 58 - (intOf i).toNat)
  case atStart => exact ⟨0, Nat.zero_le _, rfl⟩
  case round =>
    obtain ⟨j, hj, rfl⟩ := hrel
    by_cases hlt : j < 58
    · have hc := HT.out j (by omega)
      have hne := HN.out j hlt
      go_wp2
      go_round
      case rel => exact ⟨j + 1, by omega, by go_num⟩
      case measure => simp [intOf]; omega
    · obtain rfl : j = 58 := by omega
      go_wp2
      go_ret2
      exact ⟨rfl, rfl⟩

theorem str_ne {a b : ByteArray} (h : a ≠ b) : (a.toList == b.toList) = false := by
  rw [beq_eq_false_iff_ne, ByteArray.toList_eq, ByteArray.toList_eq]
  intro e
  apply h
  obtain ⟨⟨x⟩⟩ := a
  obtain ⟨⟨y⟩⟩ := b
  simp at e
  rw [e]

theorem names_apart : ∀ i, i < 58 → ∀ j, j < i → nameL.getD j [] ≠ nameL.getD i [] := by decide +kernel
theorem nameS_apart (i j : Nat) (hi : i < 58) (hj : j < i) : nameS j ≠ nameS i := by
  intro h
  apply names_apart i hi j hj
  have : (nameL.getD j []).toArray = (nameL.getD i []).toArray := congrArg ByteArray.data h
  simpa using this

theorem op_own (k : Nat) (hk : k < 58) (w : World) (ht : NameTab w) :
    Calls Tryz.prog 37 #[.string (nameS k)] w fun e w' => e = .returned (.tuple #[.int .i64 k, .int .i64 0]) ∧ w' = w :=
  op_yes k hk _ rfl (fun j hj => str_ne (nameS_apart k j hk hj)) w ht
end Go.Proofs.YthgolbmngjdbeaaGreatDoor

/- Layer 2: the document's own Names; the program answers at all. -/
namespace Go.Proofs.YthgolbmngjdbeaaGreatDoor
open Go.RowKit
set_option linter.unusedVariables false

set_option maxHeartbeats 1000000 in
theorem rnames_any (w : World) :
    Calls Tryz.prog 27 #[] w fun e w' => ∃ g, e = .returned (.slice (some ⟨g, 0, none⟩) 58 58) ∧ w.heap.size ≤ g ∧ (∀ k, k < 58 → w'.cell? ⟨g, k, none⟩ = some (.string (nameS k))) ∧ Below w.heap.size w w' := by
  go_enter Tryz.func27, Tryz.ntmps27
  go_wp2
  go_ret
  refine ⟨_, rfl, Nat.le_refl _, ?_, (Below.refl _ _).alloc (Nat.le_refl _) _⟩
  intro k hk
  have hn : (nameL.map fun s => Value.string ⟨s.toArray⟩)[k]? = some (.string (nameS k)) := by
    have : k < nameL.length := hk
    simp [nameS, List.getD, this]
  rw [← hn, ← List.getElem?_toArray]
  simp only [World.cell?, World.alloc, Array.getElem?_push_size]
  rfl

end Go.Proofs.YthgolbmngjdbeaaGreatDoor
