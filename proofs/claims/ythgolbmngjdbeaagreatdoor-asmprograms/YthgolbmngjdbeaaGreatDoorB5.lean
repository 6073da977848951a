/- My texts AsmGoP, InstRefRightA, InstRefRightB, InstRefRight, InstRights, AsmLine, AsmLine2, AsmGoL, AsmGoB, DecField, DecOp, EncPut, bound into one. -/
import Derived.Test.YthgolbmngjdbeaaGreatDoorB2
import Derived.Test.YthgolbmngjdbeaaGreatDoorB3
import Derived.Test.YthgolbmngjdbeaaGreatDoorB1
import Derived.Deep.RegionHeld3
import Derived.Test.YthgolbmngjdbeaaGreatDoorB4
import Derived.OneCell
/- Layer 6: the program's own Pieces. -/
namespace Go.Proofs.YthgolbmngjdbeaaGreatDoor
open Go.RowKit
set_option linter.unusedVariables false

theorem cutH_no : ∀ (l : List UInt8), ∀ c ∈ cutH l, c ≠ 35
  | [], c, hc => by simp [cutH] at hc
  | d :: r, c, hc => by
    by_cases h : d = 35
    · subst h
      rw [cutH_hash] at hc; simp at hc
    · rw [cutH_other d r h] at hc
      rcases List.mem_cons.1 hc with rfl | hc
      · exact h
      · exact cutH_no r c hc
/-- What a new block of one value holds. -/
theorem news1 (w : World) (v : Value) (t : TypeId) : ∀ j u, [v][j]? = some u → (w.alloc (.cells #[v] t)).cell? ((⟨w.heap.size, 0, none⟩ : Addr).add j) = some u := by
  intro j u hj
  match j, hj with
  | 0, hj => simp at hj; subst hj; simp [Addr.add]
theorem ck4 (c : UInt8) (h : c ≠ 35) : ck c ≠ 4 := by
  intro e
  unfold ck skind at e
  have hn : ((c.toNat : Int)) ≠ 35 := fun g => h (by
    apply UInt8.toNat_inj.1
    rw [show (35 : UInt8).toNat = 35 from rfl]; omega)
  revert e
  repeat' split
  all_goals first | omega | simp
theorem cutH_ck (l : List UInt8) (k : Nat) (hk : k < (cutH l).length) : ck ((cutH l).getD k 0) ≠ 4 := by
  apply ck4
  apply cutH_no l
  have : (cutH l).getD k 0 = (cutH l)[k] := by simp [List.getD, hk]
  rw [this]; exact List.getElem_mem hk
theorem sign_ck' (l : List UInt8) (k : Nat) : skind (signAt (bs l) k) = ck (l.getD k 0) := by rw [sign_bs]; rfl

set_option maxHeartbeats 4000000 in
theorem pieces6_any (l0 : List UInt8) (w : World) (hl0 : l0.length ≤ 70000) :
    Calls Tryz.prog 17 #[.string (bs l0)] w fun e w' => ((∃ ps v, piecesL l0 = some ps ∧ e = .returned (.tuple #[v, .int .i64 0]) ∧ w'.ownsRow w.heap.size 9 1 v ps.length (ps.map sV)) ∨ (piecesL l0 = none ∧ e = .returned (.tuple #[.slice none 0 0, .int .i64 1]))) ∧ Below w.heap.size w w' := by
  obtain ⟨i0, hi, hz0, hz1, hz2⟩ := info_parts (P := Tryz.prog) (e := 9) (z := .string ⟨#[]⟩) (size := 1) (bytes := 16) (by kernel_rfl)
  rw [pieces_cut l0]
  have HCU : Hid (∀ w, Calls Tryz.prog 33 #[.string (bs l0), .string ⟨#[35]⟩] w fun e w' => ∃ x b, e = .returned (.tuple #[.string (bs (cutH l0)), .string x, .bool b]) ∧ Q w w') := fun w => cut_any l0 w hl0
  have H4 : Hid (∀ k, k < (cutH l0).length → ck ((cutH l0).getD k 0) ≠ 4) := cutH_ck l0
  have hl : (cutH l0).length ≤ 70000 := Nat.le_trans (cutH_len l0) hl0
  generalize cutH l0 = l at *
  have hsz : (bs l).size = l.length := bs_size l
  clear hl0
  go_enter Tryz.func17, Tryz.ntmps17
  go_wp2_with (go_at_call 33; refine (HCU.out _).mono ?_; rintro e w1 ⟨x, b, rfl, hq⟩)
  have HQ : Hid (Q w w1) := hq
  clear hq
  go_loopw [4, 5] (fun o i wr => ∃ (k : Nat) (ol : List (List UInt8)), k ≤ l.length ∧ i = .int .i64 k ∧ wr.ownsRow w.heap.size 9 1 o ol.length (ol.map sV) ∧ Below w.heap.size w wr ∧ ol.length ≤ k ∧ Hid (piecesL l = pcs (l.drop k) ol [])) (fun _ i _ => l.length - (intOf i).toNat)
  case atStart => exact ⟨0, [], Nat.zero_le _, rfl, ⟨by decide, .inl ⟨rfl, rfl⟩⟩, HQ.out.below _, Nat.le_refl _, rfl⟩
  case round =>
    obtain ⟨k, ol, hk, rfl, hown, hb, hol, HP⟩ := hrel
    have HO : Hid (wr.ownsRow w.heap.size 9 1 _ ol.length (ol.map sV)) := hown
    have HB : Hid (Below w.heap.size w wr) := hb
    clear hown hb
    by_cases hlt : k < l.length
    · have hsf := sign_form (bs l) k
      obtain ⟨b0, b1⟩ := signAt_bd (bs l) k
      have HST : Hid _ := pcs_step l k hlt ol []
      have HCK : Hid (skind (signAt (bs l) k) = ck (l.getD k 0)) := sign_ck' l k
      have HN4 : Hid (ck (l.getD k 0) ≠ 4) := H4.out k hlt
      have hcut1 := cut_bs l k (k + 1)
      have HCN : Hid (curL l k (k + 1) = [l.getD k 0]) := by
        show curL l k (k + 1) = _
        rw [cur_next l k k (Nat.le_refl _) hlt, cur_nil]; rfl
      rw [HCN.out] at hcut1
      generalize l.getD k 0 = c at *
      generalize signAt (bs l) k = C at *
      have hv : ck c = 0 ∨ ck c = 1 ∨ ck c = 2 ∨ ck c = 3 ∨ ck c = 4 := skind_vals _
      rcases hv with hv | hv | hv | hv | hv
      · have HBL : Hid (∀ w, Calls Tryz.prog 34 #[.int .u8 C] w fun e w' => e = .returned (.bool false) ∧ w' = w) := fun w => by
          have h := isBlank_any C w b0 b1
          rw [HCK.out, hv] at h; exact h
        have HAL : Hid (∀ w, Calls Tryz.prog 35 #[.int .u8 C] w fun e w' => e = .returned (.bool false) ∧ w' = w) := fun w => by
          have h := isAlone_any C w b0 b1
          rw [HCK.out, hv] at h; exact h
        have HPA : Hid (∀ w, Calls Tryz.prog 36 #[.int .u8 C] w fun e w' => e = .returned (.bool false) ∧ w' = w) := fun w => by
          have h := isPart6_any C w b0 b1
          rw [HCK.out, hv] at h; exact h
        go_wp2_with (first | (go_at_call 34; refine (HBL.out _).mono ?_; rintro e w' ⟨rfl, hw⟩; have hw := hw.symm; subst hw) | (go_at_call 35; refine (HAL.out _).mono ?_; rintro e w' ⟨rfl, hw⟩; have hw := hw.symm; subst hw) | (go_at_call 36; refine (HPA.out _).mono ?_; rintro e w' ⟨rfl, hw⟩; have hw := hw.symm; subst hw))
        go_ret2
        exact ⟨.inr ⟨by rw [HP.out, HST.out, if_neg (by omega), if_pos hv], rfl⟩, HB.out⟩
      · have HBL : Hid (∀ w, Calls Tryz.prog 34 #[.int .u8 C] w fun e w' => e = .returned (.bool true) ∧ w' = w) := fun w => by
          have h := isBlank_any C w b0 b1
          rw [HCK.out, hv] at h; exact h
        have HAL : Hid (∀ w, Calls Tryz.prog 35 #[.int .u8 C] w fun e w' => e = .returned (.bool false) ∧ w' = w) := fun w => by
          have h := isAlone_any C w b0 b1
          rw [HCK.out, hv] at h; exact h
        have HPA : Hid (∀ w, Calls Tryz.prog 36 #[.int .u8 C] w fun e w' => e = .returned (.bool false) ∧ w' = w) := fun w => by
          have h := isPart6_any C w b0 b1
          rw [HCK.out, hv] at h; exact h
        go_wp2_with (first | (go_at_call 34; refine (HBL.out _).mono ?_; rintro e w' ⟨rfl, hw⟩; have hw := hw.symm; subst hw) | (go_at_call 35; refine (HAL.out _).mono ?_; rintro e w' ⟨rfl, hw⟩; have hw := hw.symm; subst hw) | (go_at_call 36; refine (HPA.out _).mono ?_; rintro e w' ⟨rfl, hw⟩; have hw := hw.symm; subst hw))
        go_roundw
        case rel => exact ⟨k + 1, ol, by omega, by go_num, HO.out, HB.out, by omega, by show piecesL l = _; rw [HP.out, HST.out, if_neg (by omega), if_neg (by omega), if_neg (by omega), if_neg (by omega), flush_nil]⟩
        case measure => simp [intOf]; omega
      · have HBL : Hid (∀ w, Calls Tryz.prog 34 #[.int .u8 C] w fun e w' => e = .returned (.bool false) ∧ w' = w) := fun w => by
          have h := isBlank_any C w b0 b1
          rw [HCK.out, hv] at h; exact h
        have HAL : Hid (∀ w, Calls Tryz.prog 35 #[.int .u8 C] w fun e w' => e = .returned (.bool true) ∧ w' = w) := fun w => by
          have h := isAlone_any C w b0 b1
          rw [HCK.out, hv] at h; exact h
        have HPA : Hid (∀ w, Calls Tryz.prog 36 #[.int .u8 C] w fun e w' => e = .returned (.bool false) ∧ w' = w) := fun w => by
          have h := isPart6_any C w b0 b1
          rw [HCK.out, hv] at h; exact h
        have HPD : Hid True := trivial
        go_wp2_with (first | (go_at_call 34; refine (HBL.out _).mono ?_; rintro e w' ⟨rfl, hw⟩; have hw := hw.symm; subst hw) | (go_at_call 35; refine (HAL.out _).mono ?_; rintro e w' ⟨rfl, hw⟩; have hw := hw.symm; subst hw) | (at_builtin; refine wpList_append_own _ rfl _ _ 37 rfl w.heap.size 9 i0 _ 1 16 Tryz.underlying37 hi hz0 hz1 hz2 rfl (by decide) _ _ _ rfl (HO.out.alloc _) ⟨wr.heap.size, 0, none⟩ 1 1 [.string (bs [c])] rfl rfl (news1 _ _ _) ?c2b ?c3b ?c4b ?c5b ?_))
        case c2b => first | rfl | (intro u hu; simp at hu; subst hu; rfl)
        case c3b => unfold maxLen; first | omega | (simp; omega)
        case c4b => first | omega | (simp; omega)
        case c5b => have := HB.out.size; simp; omega
        intro v3 w3 hown' hgrow _
        have HBw3 : Hid (Below w.heap.size w w3) := (HB.out.alloc HB.out.size _).grown hgrow (by have := HB.out.size; simp; omega) (fun j hj => (HO.out.lt j hj).1)
        have HOw3 : Hid (w3.ownsRow w.heap.size 9 1 v3 (ol ++ [ [c] ]).length ((ol ++ [ [c] ]).map sV)) := by
          rw [List.map_append, List.length_append]; exact hown'
        clear hown' hgrow
        go_wp2
        go_roundw
        case rel => exact ⟨k + 1, ol ++ [ [c] ], by omega, by go_num, HOw3.out, HBw3.out, by simp; omega, by show piecesL l = _; rw [HP.out, HST.out, if_neg (by omega), if_neg (by omega), if_neg (by omega), if_pos hv, flush_nil]⟩
        case measure => simp [intOf]; omega
      · have HBL : Hid (∀ w, Calls Tryz.prog 34 #[.int .u8 C] w fun e w' => e = .returned (.bool false) ∧ w' = w) := fun w => by
          have h := isBlank_any C w b0 b1
          rw [HCK.out, hv] at h; exact h
        have HAL : Hid (∀ w, Calls Tryz.prog 35 #[.int .u8 C] w fun e w' => e = .returned (.bool false) ∧ w' = w) := fun w => by
          have h := isAlone_any C w b0 b1
          rw [HCK.out, hv] at h; exact h
        have HPA : Hid (∀ w, Calls Tryz.prog 36 #[.int .u8 C] w fun e w' => e = .returned (.bool true) ∧ w' = w) := fun w => by
          have h := isPart6_any C w b0 b1
          rw [HCK.out, hv] at h; exact h
        go_wp2_with (first | (go_at_call 34; refine (HBL.out _).mono ?_; rintro e w' ⟨rfl, hw⟩; have hw := hw.symm; subst hw) | (go_at_call 35; refine (HAL.out _).mono ?_; rintro e w' ⟨rfl, hw⟩; have hw := hw.symm; subst hw) | (go_at_call 36; refine (HPA.out _).mono ?_; rintro e w' ⟨rfl, hw⟩; have hw := hw.symm; subst hw))
        go_loop [7] (fun e => ∃ m : Nat, k < m ∧ m ≤ l.length ∧ e = .int .i64 m ∧ Hid (piecesL l = pcs (l.drop m) ol (curL l k m))) (fun e => l.length - (intOf e).toNat)
        case atStart => exact ⟨k + 1, by omega, by omega, by go_num, by show piecesL l = _; rw [HP.out, HST.out, if_pos hv, HCN.out]; rfl⟩
        case round =>
          obtain ⟨m, hkm, hm, rfl, HPM⟩ := hrel
          clear hsf
          have hcut := cut_bs l k m
          have HCL : Hid (curL l k m ≠ []) := by
            show curL l k m ≠ []
            unfold curL
            intro e
            have := congrArg List.length e
            simp at this
            omega
          by_cases hml : m < l.length
          · have hsf2 := sign_form (bs l) m
            obtain ⟨d0, d1⟩ := signAt_bd (bs l) m
            have HSM : Hid _ := pcs_step l m hml ol (curL l k m)
            have HCM : Hid (skind (signAt (bs l) m) = ck (l.getD m 0)) := sign_ck' l m
            have HNX : Hid (curL l k (m + 1) = curL l k m ++ [l.getD m 0]) := cur_next l k m (by omega) hml
            have HFL : Hid (ck (l.getD m 0) ≠ 3 → pcs (l.drop m) ol (curL l k m) = pcs (l.drop m) (ol ++ [curL l k m]) []) := fun g => pcs_flush _ _ _ HCL.out (.inr (by rw [drop_getD]; exact g))
            generalize l.getD m 0 = d at *
            generalize signAt (bs l) m = D at *
            by_cases hd : ck d = 3
            · have HPD : Hid (∀ w, Calls Tryz.prog 36 #[.int .u8 D] w fun e w' => e = .returned (.bool true) ∧ w' = w) := fun w => by
                have h := isPart6_any D w d0 d1
                rw [HCM.out, hd] at h; exact h
              go_wp2_with (first | (go_at_call 36; refine (HPD.out _).mono ?_; rintro e w' ⟨rfl, hw⟩; have hw := hw.symm; subst hw))
              go_round
              case rel => exact ⟨m + 1, by omega, by omega, by go_num, by show piecesL l = _; rw [HPM.out, HSM.out, if_pos hd, HNX.out]⟩
              case measure => simp [intOf]; omega
            · have HPD : Hid (∀ w, Calls Tryz.prog 36 #[.int .u8 D] w fun e w' => e = .returned (.bool false) ∧ w' = w) := fun w => by
                have h := isPart6_any D w d0 d1
                rw [HCM.out, decide_eq_false hd] at h; exact h
              generalize hcu : curL l k m = cu at *
              clear hcu
              go_wp2_with (first | (go_at_call 36; refine (HPD.out _).mono ?_; rintro e w' ⟨rfl, hw⟩; have hw := hw.symm; subst hw) | (at_builtin; refine wpList_append_own _ rfl _ _ 37 rfl w.heap.size 9 i0 _ 1 16 Tryz.underlying37 hi hz0 hz1 hz2 rfl (by decide) _ _ _ rfl (HO.out.alloc _) ⟨wr.heap.size, 0, none⟩ 1 1 [.string (bs cu)] rfl rfl (news1 _ _ _) ?c2c ?c3c ?c4c ?c5c ?_))
              case c2c => first | rfl | (intro u hu; simp at hu; subst hu; rfl)
              case c3c => unfold maxLen; first | omega | (simp; omega)
              case c4c => first | omega | (simp; omega)
              case c5c => have := HB.out.size; simp; omega
              intro v3 w3 hown' hgrow _
              have HBw3 : Hid (Below w.heap.size w w3) := (HB.out.alloc HB.out.size _).grown hgrow (by have := HB.out.size; simp; omega) (fun j hj => (HO.out.lt j hj).1)
              have HOw3 : Hid (w3.ownsRow w.heap.size 9 1 v3 (ol ++ [ cu ]).length ((ol ++ [ cu ]).map sV)) := by
                rw [List.map_append, List.length_append]; exact hown'
              clear hown' hgrow
              go_wp2
              go_roundw
              case rel => exact ⟨m, ol ++ [cu], by omega, by go_num, HOw3.out, HBw3.out, by simp; omega, by show piecesL l = _; rw [HPM.out, HFL.out hd]⟩
              case measure => simp [intOf]; omega
          · have HE : Hid (m = l.length) := by show m = l.length; omega
            have HFL : Hid (pcs (l.drop m) ol (curL l k m) = pcs (l.drop m) (ol ++ [curL l k m]) []) := pcs_flush _ _ _ HCL.out (.inl (by rw [HE.out]; simp))
            have HPD : Hid True := trivial
            generalize hcu : curL l k m = cu at *
            clear hcu
            go_wp2_with (first | (at_builtin; refine wpList_append_own _ rfl _ _ 37 rfl w.heap.size 9 i0 _ 1 16 Tryz.underlying37 hi hz0 hz1 hz2 rfl (by decide) _ _ _ rfl (HO.out.alloc _) ⟨wr.heap.size, 0, none⟩ 1 1 [.string (bs cu)] rfl rfl (news1 _ _ _) ?c2d ?c3d ?c4d ?c5d ?_))
            case c2d => first | rfl | (intro u hu; simp at hu; subst hu; rfl)
            case c3d => unfold maxLen; first | omega | (simp; omega)
            case c4d => first | omega | (simp; omega)
            case c5d => have := HB.out.size; simp; omega
            intro v3 w3 hown' hgrow _
            have HBw3 : Hid (Below w.heap.size w w3) := (HB.out.alloc HB.out.size _).grown hgrow (by have := HB.out.size; simp; omega) (fun j hj => (HO.out.lt j hj).1)
            have HOw3 : Hid (w3.ownsRow w.heap.size 9 1 v3 (ol ++ [ cu ]).length ((ol ++ [ cu ]).map sV)) := by
              rw [List.map_append, List.length_append]; exact hown'
            clear hown' hgrow
            go_wp2
            go_roundw
            case rel => exact ⟨m, ol ++ [cu], by omega, by go_num, HOw3.out, HBw3.out, by simp; omega, by show piecesL l = _; rw [HPM.out, HFL.out]⟩
            case measure => simp [intOf]; omega
      · exact absurd hv HN4.out
    · obtain rfl : k = l.length := by omega
      have HE : Hid (piecesL l = some ol) := by
        show piecesL l = _
        rw [HP.out, List.drop_length]; rfl
      go_wp2
      go_ret2
      exact ⟨.inl ⟨ol, _, HE.out, rfl, HO.out⟩, HB.out⟩
end Go.Proofs.YthgolbmngjdbeaaGreatDoor

/- Layer 2: the document's own Right, of any instruction. -/
namespace Go.Proofs.YthgolbmngjdbeaaGreatDoor
open Go.RowKit
set_option linter.unusedVariables false

set_option maxHeartbeats 400000 in
theorem rright_no (op rd rs1 rs2 imm csr : Int) (w : World) (h : opB op = false) :
    Calls Tryz.prog 57 #[.agg #[.int .i64 op, .int .i64 rd, .int .i64 rs1, .int .i64 rs2, .int .u32 imm, .int .i64 csr]] w fun e w' => e = .returned (.bool false) ∧ Below w.heap.size w w' := by
  have hn := opB_no h
  by_cases h0 : op < 0
  · go_enter Tryz.func57, Tryz.ntmps57
    go_wp2
    go_ret
    exact ⟨rfl, (Below.refl _ _).alloc (Nat.le_refl _) _⟩
  · have h1 : 58 ≤ op := by omega
    go_enter Tryz.func57, Tryz.ntmps57
    go_wp2
    go_ret
    exact ⟨rfl, (Below.refl _ _).alloc (Nat.le_refl _) _⟩

set_option maxHeartbeats 1000000 in
theorem rright_0 (k : Nat) (rd rs1 rs2 imm csr : Int) (w : World) (hk : k < 58) (hz : formZ k = 0) (h0 : 0 ≤ imm) (h1 : imm < 4294967296) :
    Calls Tryz.prog 57 #[.agg #[.int .i64 k, .int .i64 rd, .int .i64 rs1, .int .i64 rs2, .int .u32 imm, .int .i64 csr]] w fun e w' => e = .returned (.bool (partB rd false 31 && (partB rs1 false 31 && (partB rs2 false 31 && (partB csr false 4095 && decide (imm = 0)))))) ∧ Below w.heap.size w w' := by
  cases c1 : partB rd false 31 with
  | false =>
    go_enter Tryz.func57, Tryz.ntmps57
    go_wp2_with (first | (go_at_call 30; refine (rform_any k hk _).mono ?_; rintro e w' ⟨rfl, rfl⟩; rw [hz]) | (go_at_call 83; refine (reg_any _ _ _).mono ?_; rintro e w' ⟨rfl, rfl⟩))
    go_ret
    exact ⟨ret_bool (by simp), (Below.refl _ _).alloc (Nat.le_refl _) _⟩
  | true =>
    cases c2 : partB rs1 false 31 with
    | false =>
      go_enter Tryz.func57, Tryz.ntmps57
      go_wp2_with (first | (go_at_call 30; refine (rform_any k hk _).mono ?_; rintro e w' ⟨rfl, rfl⟩; rw [hz]) | (go_at_call 83; refine (reg_any _ _ _).mono ?_; rintro e w' ⟨rfl, rfl⟩))
      go_ret
      exact ⟨ret_bool (by simp), (Below.refl _ _).alloc (Nat.le_refl _) _⟩
    | true =>
      cases c3 : partB rs2 false 31 with
      | false =>
        go_enter Tryz.func57, Tryz.ntmps57
        go_wp2_with (first | (go_at_call 30; refine (rform_any k hk _).mono ?_; rintro e w' ⟨rfl, rfl⟩; rw [hz]) | (go_at_call 83; refine (reg_any _ _ _).mono ?_; rintro e w' ⟨rfl, rfl⟩))
        go_ret
        exact ⟨ret_bool (by simp), (Below.refl _ _).alloc (Nat.le_refl _) _⟩
      | true =>
        by_cases d1 : csr < 0
        · have c4 : partB csr false 4095 = false := by simp [partB]; omega
          go_enter Tryz.func57, Tryz.ntmps57
          go_wp2_with (first | (go_at_call 30; refine (rform_any k hk _).mono ?_; rintro e w' ⟨rfl, rfl⟩; rw [hz]) | (go_at_call 83; refine (reg_any _ _ _).mono ?_; rintro e w' ⟨rfl, rfl⟩))
          go_ret
          exact ⟨ret_bool (by simp [c4]), (Below.refl _ _).alloc (Nat.le_refl _) _⟩
        · by_cases d2 : 4095 < csr
          · have c4 : partB csr false 4095 = false := by simp [partB]; omega
            go_enter Tryz.func57, Tryz.ntmps57
            go_wp2_with (first | (go_at_call 30; refine (rform_any k hk _).mono ?_; rintro e w' ⟨rfl, rfl⟩; rw [hz]) | (go_at_call 83; refine (reg_any _ _ _).mono ?_; rintro e w' ⟨rfl, rfl⟩))
            go_ret
            exact ⟨ret_bool (by simp [c4]), (Below.refl _ _).alloc (Nat.le_refl _) _⟩
          · by_cases d3 : csr = 0
            · have c4 : partB csr false 4095 = true := by simp [partB]; omega
              subst d3
              go_enter Tryz.func57, Tryz.ntmps57
              go_wp2_with (first | (go_at_call 30; refine (rform_any k hk _).mono ?_; rintro e w' ⟨rfl, rfl⟩; rw [hz]) | (go_at_call 83; refine (reg_any _ _ _).mono ?_; rintro e w' ⟨rfl, rfl⟩))
              go_ret
              exact ⟨ret_bool (by first | (rw [c4]; rfl) | rfl), (Below.refl _ _).alloc (Nat.le_refl _) _⟩
            · have c4 : partB csr false 4095 = false := by simp [partB]; omega
              have e0 : (csr != 0) = true := bne_iff_ne.2 d3
              go_enter Tryz.func57, Tryz.ntmps57
              go_wp2_with (first | (go_at_call 30; refine (rform_any k hk _).mono ?_; rintro e w' ⟨rfl, rfl⟩; rw [hz]) | (go_at_call 83; refine (reg_any _ _ _).mono ?_; rintro e w' ⟨rfl, rfl⟩))
              go_ret
              exact ⟨ret_bool (by simp [c4]), (Below.refl _ _).alloc (Nat.le_refl _) _⟩

set_option maxHeartbeats 1000000 in
theorem rright_1 (k : Nat) (rd rs1 rs2 imm csr : Int) (w : World) (hk : k < 58) (hz : formZ k = 1) (h0 : 0 ≤ imm) (h1 : imm < 4294967296) :
    Calls Tryz.prog 57 #[.agg #[.int .i64 k, .int .i64 rd, .int .i64 rs1, .int .i64 rs2, .int .u32 imm, .int .i64 csr]] w fun e w' => e = .returned (.bool (partB rd true 31 && (partB rs1 false 31 && (partB rs2 false 31 && (partB csr false 4095 && decide (imm % 4096 = 0)))))) ∧ Below w.heap.size w w' := by
  cases c1 : partB rd true 31 with
  | false =>
    go_enter Tryz.func57, Tryz.ntmps57
    go_wp2_with (first | (go_at_call 30; refine (rform_any k hk _).mono ?_; rintro e w' ⟨rfl, rfl⟩; rw [hz]) | (go_at_call 83; refine (reg_any _ _ _).mono ?_; rintro e w' ⟨rfl, rfl⟩))
    go_ret
    exact ⟨ret_bool (by simp), (Below.refl _ _).alloc (Nat.le_refl _) _⟩
  | true =>
    cases c2 : partB rs1 false 31 with
    | false =>
      go_enter Tryz.func57, Tryz.ntmps57
      go_wp2_with (first | (go_at_call 30; refine (rform_any k hk _).mono ?_; rintro e w' ⟨rfl, rfl⟩; rw [hz]) | (go_at_call 83; refine (reg_any _ _ _).mono ?_; rintro e w' ⟨rfl, rfl⟩))
      go_ret
      exact ⟨ret_bool (by simp), (Below.refl _ _).alloc (Nat.le_refl _) _⟩
    | true =>
      cases c3 : partB rs2 false 31 with
      | false =>
        go_enter Tryz.func57, Tryz.ntmps57
        go_wp2_with (first | (go_at_call 30; refine (rform_any k hk _).mono ?_; rintro e w' ⟨rfl, rfl⟩; rw [hz]) | (go_at_call 83; refine (reg_any _ _ _).mono ?_; rintro e w' ⟨rfl, rfl⟩))
        go_ret
        exact ⟨ret_bool (by simp), (Below.refl _ _).alloc (Nat.le_refl _) _⟩
      | true =>
        by_cases d1 : csr < 0
        · have c4 : partB csr false 4095 = false := by simp [partB]; omega
          go_enter Tryz.func57, Tryz.ntmps57
          go_wp2_with (first | (go_at_call 30; refine (rform_any k hk _).mono ?_; rintro e w' ⟨rfl, rfl⟩; rw [hz]) | (go_at_call 83; refine (reg_any _ _ _).mono ?_; rintro e w' ⟨rfl, rfl⟩))
          go_ret
          exact ⟨ret_bool (by simp [c4]), (Below.refl _ _).alloc (Nat.le_refl _) _⟩
        · by_cases d2 : 4095 < csr
          · have c4 : partB csr false 4095 = false := by simp [partB]; omega
            go_enter Tryz.func57, Tryz.ntmps57
            go_wp2_with (first | (go_at_call 30; refine (rform_any k hk _).mono ?_; rintro e w' ⟨rfl, rfl⟩; rw [hz]) | (go_at_call 83; refine (reg_any _ _ _).mono ?_; rintro e w' ⟨rfl, rfl⟩))
            go_ret
            exact ⟨ret_bool (by simp [c4]), (Below.refl _ _).alloc (Nat.le_refl _) _⟩
          · by_cases d3 : csr = 0
            · have c4 : partB csr false 4095 = true := by simp [partB]; omega
              subst d3
              go_enter Tryz.func57, Tryz.ntmps57
              go_wp2_with (first | (go_at_call 30; refine (rform_any k hk _).mono ?_; rintro e w' ⟨rfl, rfl⟩; rw [hz]) | (go_at_call 83; refine (reg_any _ _ _).mono ?_; rintro e w' ⟨rfl, rfl⟩))
              go_ret
              exact ⟨ret_bool (by first | (rw [c4]; rfl) | rfl), (Below.refl _ _).alloc (Nat.le_refl _) _⟩
            · have c4 : partB csr false 4095 = false := by simp [partB]; omega
              have e0 : (csr != 0) = true := bne_iff_ne.2 d3
              go_enter Tryz.func57, Tryz.ntmps57
              go_wp2_with (first | (go_at_call 30; refine (rform_any k hk _).mono ?_; rintro e w' ⟨rfl, rfl⟩; rw [hz]) | (go_at_call 83; refine (reg_any _ _ _).mono ?_; rintro e w' ⟨rfl, rfl⟩))
              go_ret
              exact ⟨ret_bool (by simp [c4]), (Below.refl _ _).alloc (Nat.le_refl _) _⟩

set_option maxHeartbeats 1000000 in
theorem rright_2 (k : Nat) (rd rs1 rs2 imm csr : Int) (w : World) (hk : k < 58) (hz : formZ k = 2) (h0 : 0 ≤ imm) (h1 : imm < 4294967296) :
    Calls Tryz.prog 57 #[.agg #[.int .i64 k, .int .i64 rd, .int .i64 rs1, .int .i64 rs2, .int .u32 imm, .int .i64 csr]] w fun e w' => e = .returned (.bool (partB rd true 31 && (partB rs1 false 31 && (partB rs2 false 31 && (partB csr false 4095 && (evenB imm && sgB imm 1048576)))))) ∧ Below w.heap.size w w' := by
  cases c1 : partB rd true 31 with
  | false =>
    go_enter Tryz.func57, Tryz.ntmps57
    go_wp2_with (first | (go_at_call 30; refine (rform_any k hk _).mono ?_; rintro e w' ⟨rfl, rfl⟩; rw [hz]) | (go_at_call 83; refine (reg_any _ _ _).mono ?_; rintro e w' ⟨rfl, rfl⟩) | (go_at_call 84; refine (rsgn21 _ h0 h1 _).mono ?_; rintro e w' ⟨rfl, rfl⟩))
    go_ret
    exact ⟨ret_bool (by simp), (Below.refl _ _).alloc (Nat.le_refl _) _⟩
  | true =>
    cases c2 : partB rs1 false 31 with
    | false =>
      go_enter Tryz.func57, Tryz.ntmps57
      go_wp2_with (first | (go_at_call 30; refine (rform_any k hk _).mono ?_; rintro e w' ⟨rfl, rfl⟩; rw [hz]) | (go_at_call 83; refine (reg_any _ _ _).mono ?_; rintro e w' ⟨rfl, rfl⟩) | (go_at_call 84; refine (rsgn21 _ h0 h1 _).mono ?_; rintro e w' ⟨rfl, rfl⟩))
      go_ret
      exact ⟨ret_bool (by simp), (Below.refl _ _).alloc (Nat.le_refl _) _⟩
    | true =>
      cases c3 : partB rs2 false 31 with
      | false =>
        go_enter Tryz.func57, Tryz.ntmps57
        go_wp2_with (first | (go_at_call 30; refine (rform_any k hk _).mono ?_; rintro e w' ⟨rfl, rfl⟩; rw [hz]) | (go_at_call 83; refine (reg_any _ _ _).mono ?_; rintro e w' ⟨rfl, rfl⟩) | (go_at_call 84; refine (rsgn21 _ h0 h1 _).mono ?_; rintro e w' ⟨rfl, rfl⟩))
        go_ret
        exact ⟨ret_bool (by simp), (Below.refl _ _).alloc (Nat.le_refl _) _⟩
      | true =>
        by_cases d1 : csr < 0
        · have c4 : partB csr false 4095 = false := by simp [partB]; omega
          go_enter Tryz.func57, Tryz.ntmps57
          go_wp2_with (first | (go_at_call 30; refine (rform_any k hk _).mono ?_; rintro e w' ⟨rfl, rfl⟩; rw [hz]) | (go_at_call 83; refine (reg_any _ _ _).mono ?_; rintro e w' ⟨rfl, rfl⟩) | (go_at_call 84; refine (rsgn21 _ h0 h1 _).mono ?_; rintro e w' ⟨rfl, rfl⟩))
          go_ret
          exact ⟨ret_bool (by simp [c4]), (Below.refl _ _).alloc (Nat.le_refl _) _⟩
        · by_cases d2 : 4095 < csr
          · have c4 : partB csr false 4095 = false := by simp [partB]; omega
            go_enter Tryz.func57, Tryz.ntmps57
            go_wp2_with (first | (go_at_call 30; refine (rform_any k hk _).mono ?_; rintro e w' ⟨rfl, rfl⟩; rw [hz]) | (go_at_call 83; refine (reg_any _ _ _).mono ?_; rintro e w' ⟨rfl, rfl⟩) | (go_at_call 84; refine (rsgn21 _ h0 h1 _).mono ?_; rintro e w' ⟨rfl, rfl⟩))
            go_ret
            exact ⟨ret_bool (by simp [c4]), (Below.refl _ _).alloc (Nat.le_refl _) _⟩
          · by_cases d3 : csr = 0
            · have c4 : partB csr false 4095 = true := by simp [partB]; omega
              subst d3
              go_enter Tryz.func57, Tryz.ntmps57
              go_wp2_with (first | (go_at_call 30; refine (rform_any k hk _).mono ?_; rintro e w' ⟨rfl, rfl⟩; rw [hz]) | (go_at_call 83; refine (reg_any _ _ _).mono ?_; rintro e w' ⟨rfl, rfl⟩) | (go_at_call 84; refine (rsgn21 _ h0 h1 _).mono ?_; rintro e w' ⟨rfl, rfl⟩))
              go_ret
              exact ⟨ret_bool (by first | (rw [c4]; rfl) | rfl), (Below.refl _ _).alloc (Nat.le_refl _) _⟩
            · have c4 : partB csr false 4095 = false := by simp [partB]; omega
              have e0 : (csr != 0) = true := bne_iff_ne.2 d3
              go_enter Tryz.func57, Tryz.ntmps57
              go_wp2_with (first | (go_at_call 30; refine (rform_any k hk _).mono ?_; rintro e w' ⟨rfl, rfl⟩; rw [hz]) | (go_at_call 83; refine (reg_any _ _ _).mono ?_; rintro e w' ⟨rfl, rfl⟩) | (go_at_call 84; refine (rsgn21 _ h0 h1 _).mono ?_; rintro e w' ⟨rfl, rfl⟩))
              go_ret
              exact ⟨ret_bool (by simp [c4]), (Below.refl _ _).alloc (Nat.le_refl _) _⟩

set_option maxHeartbeats 1000000 in
theorem rright_3 (k : Nat) (rd rs1 rs2 imm csr : Int) (w : World) (hk : k < 58) (hz : formZ k = 3) (h0 : 0 ≤ imm) (h1 : imm < 4294967296) :
    Calls Tryz.prog 57 #[.agg #[.int .i64 k, .int .i64 rd, .int .i64 rs1, .int .i64 rs2, .int .u32 imm, .int .i64 csr]] w fun e w' => e = .returned (.bool (partB rd true 31 && (partB rs1 true 31 && (partB rs2 false 31 && (partB csr false 4095 && sgB imm 2048))))) ∧ Below w.heap.size w w' := by
  cases c1 : partB rd true 31 with
  | false =>
    go_enter Tryz.func57, Tryz.ntmps57
    go_wp2_with (first | (go_at_call 30; refine (rform_any k hk _).mono ?_; rintro e w' ⟨rfl, rfl⟩; rw [hz]) | (go_at_call 83; refine (reg_any _ _ _).mono ?_; rintro e w' ⟨rfl, rfl⟩) | (go_at_call 84; refine (rsgn12 _ h0 h1 _).mono ?_; rintro e w' ⟨rfl, rfl⟩))
    go_ret
    exact ⟨ret_bool (by simp), (Below.refl _ _).alloc (Nat.le_refl _) _⟩
  | true =>
    cases c2 : partB rs1 true 31 with
    | false =>
      go_enter Tryz.func57, Tryz.ntmps57
      go_wp2_with (first | (go_at_call 30; refine (rform_any k hk _).mono ?_; rintro e w' ⟨rfl, rfl⟩; rw [hz]) | (go_at_call 83; refine (reg_any _ _ _).mono ?_; rintro e w' ⟨rfl, rfl⟩) | (go_at_call 84; refine (rsgn12 _ h0 h1 _).mono ?_; rintro e w' ⟨rfl, rfl⟩))
      go_ret
      exact ⟨ret_bool (by simp), (Below.refl _ _).alloc (Nat.le_refl _) _⟩
    | true =>
      cases c3 : partB rs2 false 31 with
      | false =>
        go_enter Tryz.func57, Tryz.ntmps57
        go_wp2_with (first | (go_at_call 30; refine (rform_any k hk _).mono ?_; rintro e w' ⟨rfl, rfl⟩; rw [hz]) | (go_at_call 83; refine (reg_any _ _ _).mono ?_; rintro e w' ⟨rfl, rfl⟩) | (go_at_call 84; refine (rsgn12 _ h0 h1 _).mono ?_; rintro e w' ⟨rfl, rfl⟩))
        go_ret
        exact ⟨ret_bool (by simp), (Below.refl _ _).alloc (Nat.le_refl _) _⟩
      | true =>
        by_cases d1 : csr < 0
        · have c4 : partB csr false 4095 = false := by simp [partB]; omega
          go_enter Tryz.func57, Tryz.ntmps57
          go_wp2_with (first | (go_at_call 30; refine (rform_any k hk _).mono ?_; rintro e w' ⟨rfl, rfl⟩; rw [hz]) | (go_at_call 83; refine (reg_any _ _ _).mono ?_; rintro e w' ⟨rfl, rfl⟩) | (go_at_call 84; refine (rsgn12 _ h0 h1 _).mono ?_; rintro e w' ⟨rfl, rfl⟩))
          go_ret
          exact ⟨ret_bool (by simp [c4]), (Below.refl _ _).alloc (Nat.le_refl _) _⟩
        · by_cases d2 : 4095 < csr
          · have c4 : partB csr false 4095 = false := by simp [partB]; omega
            go_enter Tryz.func57, Tryz.ntmps57
            go_wp2_with (first | (go_at_call 30; refine (rform_any k hk _).mono ?_; rintro e w' ⟨rfl, rfl⟩; rw [hz]) | (go_at_call 83; refine (reg_any _ _ _).mono ?_; rintro e w' ⟨rfl, rfl⟩) | (go_at_call 84; refine (rsgn12 _ h0 h1 _).mono ?_; rintro e w' ⟨rfl, rfl⟩))
            go_ret
            exact ⟨ret_bool (by simp [c4]), (Below.refl _ _).alloc (Nat.le_refl _) _⟩
          · by_cases d3 : csr = 0
            · have c4 : partB csr false 4095 = true := by simp [partB]; omega
              subst d3
              go_enter Tryz.func57, Tryz.ntmps57
              go_wp2_with (first | (go_at_call 30; refine (rform_any k hk _).mono ?_; rintro e w' ⟨rfl, rfl⟩; rw [hz]) | (go_at_call 83; refine (reg_any _ _ _).mono ?_; rintro e w' ⟨rfl, rfl⟩) | (go_at_call 84; refine (rsgn12 _ h0 h1 _).mono ?_; rintro e w' ⟨rfl, rfl⟩))
              go_ret
              exact ⟨ret_bool (by first | (rw [c4]; rfl) | rfl), (Below.refl _ _).alloc (Nat.le_refl _) _⟩
            · have c4 : partB csr false 4095 = false := by simp [partB]; omega
              have e0 : (csr != 0) = true := bne_iff_ne.2 d3
              go_enter Tryz.func57, Tryz.ntmps57
              go_wp2_with (first | (go_at_call 30; refine (rform_any k hk _).mono ?_; rintro e w' ⟨rfl, rfl⟩; rw [hz]) | (go_at_call 83; refine (reg_any _ _ _).mono ?_; rintro e w' ⟨rfl, rfl⟩) | (go_at_call 84; refine (rsgn12 _ h0 h1 _).mono ?_; rintro e w' ⟨rfl, rfl⟩))
              go_ret
              exact ⟨ret_bool (by simp [c4]), (Below.refl _ _).alloc (Nat.le_refl _) _⟩

set_option maxHeartbeats 1000000 in
theorem rright_4 (k : Nat) (rd rs1 rs2 imm csr : Int) (w : World) (hk : k < 58) (hz : formZ k = 4) (h0 : 0 ≤ imm) (h1 : imm < 4294967296) :
    Calls Tryz.prog 57 #[.agg #[.int .i64 k, .int .i64 rd, .int .i64 rs1, .int .i64 rs2, .int .u32 imm, .int .i64 csr]] w fun e w' => e = .returned (.bool (partB rd false 31 && (partB rs1 true 31 && (partB rs2 true 31 && (partB csr false 4095 && (evenB imm && sgB imm 4096)))))) ∧ Below w.heap.size w w' := by
  cases c1 : partB rd false 31 with
  | false =>
    go_enter Tryz.func57, Tryz.ntmps57
    go_wp2_with (first | (go_at_call 30; refine (rform_any k hk _).mono ?_; rintro e w' ⟨rfl, rfl⟩; rw [hz]) | (go_at_call 83; refine (reg_any _ _ _).mono ?_; rintro e w' ⟨rfl, rfl⟩) | (go_at_call 84; refine (rsgn13 _ h0 h1 _).mono ?_; rintro e w' ⟨rfl, rfl⟩))
    go_ret
    exact ⟨ret_bool (by simp), (Below.refl _ _).alloc (Nat.le_refl _) _⟩
  | true =>
    cases c2 : partB rs1 true 31 with
    | false =>
      go_enter Tryz.func57, Tryz.ntmps57
      go_wp2_with (first | (go_at_call 30; refine (rform_any k hk _).mono ?_; rintro e w' ⟨rfl, rfl⟩; rw [hz]) | (go_at_call 83; refine (reg_any _ _ _).mono ?_; rintro e w' ⟨rfl, rfl⟩) | (go_at_call 84; refine (rsgn13 _ h0 h1 _).mono ?_; rintro e w' ⟨rfl, rfl⟩))
      go_ret
      exact ⟨ret_bool (by simp), (Below.refl _ _).alloc (Nat.le_refl _) _⟩
    | true =>
      cases c3 : partB rs2 true 31 with
      | false =>
        go_enter Tryz.func57, Tryz.ntmps57
        go_wp2_with (first | (go_at_call 30; refine (rform_any k hk _).mono ?_; rintro e w' ⟨rfl, rfl⟩; rw [hz]) | (go_at_call 83; refine (reg_any _ _ _).mono ?_; rintro e w' ⟨rfl, rfl⟩) | (go_at_call 84; refine (rsgn13 _ h0 h1 _).mono ?_; rintro e w' ⟨rfl, rfl⟩))
        go_ret
        exact ⟨ret_bool (by simp), (Below.refl _ _).alloc (Nat.le_refl _) _⟩
      | true =>
        by_cases d1 : csr < 0
        · have c4 : partB csr false 4095 = false := by simp [partB]; omega
          go_enter Tryz.func57, Tryz.ntmps57
          go_wp2_with (first | (go_at_call 30; refine (rform_any k hk _).mono ?_; rintro e w' ⟨rfl, rfl⟩; rw [hz]) | (go_at_call 83; refine (reg_any _ _ _).mono ?_; rintro e w' ⟨rfl, rfl⟩) | (go_at_call 84; refine (rsgn13 _ h0 h1 _).mono ?_; rintro e w' ⟨rfl, rfl⟩))
          go_ret
          exact ⟨ret_bool (by simp [c4]), (Below.refl _ _).alloc (Nat.le_refl _) _⟩
        · by_cases d2 : 4095 < csr
          · have c4 : partB csr false 4095 = false := by simp [partB]; omega
            go_enter Tryz.func57, Tryz.ntmps57
            go_wp2_with (first | (go_at_call 30; refine (rform_any k hk _).mono ?_; rintro e w' ⟨rfl, rfl⟩; rw [hz]) | (go_at_call 83; refine (reg_any _ _ _).mono ?_; rintro e w' ⟨rfl, rfl⟩) | (go_at_call 84; refine (rsgn13 _ h0 h1 _).mono ?_; rintro e w' ⟨rfl, rfl⟩))
            go_ret
            exact ⟨ret_bool (by simp [c4]), (Below.refl _ _).alloc (Nat.le_refl _) _⟩
          · by_cases d3 : csr = 0
            · have c4 : partB csr false 4095 = true := by simp [partB]; omega
              subst d3
              go_enter Tryz.func57, Tryz.ntmps57
              go_wp2_with (first | (go_at_call 30; refine (rform_any k hk _).mono ?_; rintro e w' ⟨rfl, rfl⟩; rw [hz]) | (go_at_call 83; refine (reg_any _ _ _).mono ?_; rintro e w' ⟨rfl, rfl⟩) | (go_at_call 84; refine (rsgn13 _ h0 h1 _).mono ?_; rintro e w' ⟨rfl, rfl⟩))
              go_ret
              exact ⟨ret_bool (by first | (rw [c4]; rfl) | rfl), (Below.refl _ _).alloc (Nat.le_refl _) _⟩
            · have c4 : partB csr false 4095 = false := by simp [partB]; omega
              have e0 : (csr != 0) = true := bne_iff_ne.2 d3
              go_enter Tryz.func57, Tryz.ntmps57
              go_wp2_with (first | (go_at_call 30; refine (rform_any k hk _).mono ?_; rintro e w' ⟨rfl, rfl⟩; rw [hz]) | (go_at_call 83; refine (reg_any _ _ _).mono ?_; rintro e w' ⟨rfl, rfl⟩) | (go_at_call 84; refine (rsgn13 _ h0 h1 _).mono ?_; rintro e w' ⟨rfl, rfl⟩))
              go_ret
              exact ⟨ret_bool (by simp [c4]), (Below.refl _ _).alloc (Nat.le_refl _) _⟩
end Go.Proofs.YthgolbmngjdbeaaGreatDoor

/- Layer 2: the document's own Right, of any instruction (forms 5 to 9). -/
namespace Go.Proofs.YthgolbmngjdbeaaGreatDoor
open Go.RowKit
set_option linter.unusedVariables false

set_option maxHeartbeats 1000000 in
theorem rright_5 (k : Nat) (rd rs1 rs2 imm csr : Int) (w : World) (hk : k < 58) (hz : formZ k = 5) (h0 : 0 ≤ imm) (h1 : imm < 4294967296) :
    Calls Tryz.prog 57 #[.agg #[.int .i64 k, .int .i64 rd, .int .i64 rs1, .int .i64 rs2, .int .u32 imm, .int .i64 csr]] w fun e w' => e = .returned (.bool (partB rd false 31 && (partB rs1 true 31 && (partB rs2 true 31 && (partB csr false 4095 && sgB imm 2048))))) ∧ Below w.heap.size w w' := by
  cases c1 : partB rd false 31 with
  | false =>
    go_enter Tryz.func57, Tryz.ntmps57
    go_wp2_with (first | (go_at_call 30; refine (rform_any k hk _).mono ?_; rintro e w' ⟨rfl, rfl⟩; rw [hz]) | (go_at_call 83; refine (reg_any _ _ _).mono ?_; rintro e w' ⟨rfl, rfl⟩) | (go_at_call 84; refine (rsgn12 _ h0 h1 _).mono ?_; rintro e w' ⟨rfl, rfl⟩))
    go_ret
    exact ⟨ret_bool (by simp), (Below.refl _ _).alloc (Nat.le_refl _) _⟩
  | true =>
    cases c2 : partB rs1 true 31 with
    | false =>
      go_enter Tryz.func57, Tryz.ntmps57
      go_wp2_with (first | (go_at_call 30; refine (rform_any k hk _).mono ?_; rintro e w' ⟨rfl, rfl⟩; rw [hz]) | (go_at_call 83; refine (reg_any _ _ _).mono ?_; rintro e w' ⟨rfl, rfl⟩) | (go_at_call 84; refine (rsgn12 _ h0 h1 _).mono ?_; rintro e w' ⟨rfl, rfl⟩))
      go_ret
      exact ⟨ret_bool (by simp), (Below.refl _ _).alloc (Nat.le_refl _) _⟩
    | true =>
      cases c3 : partB rs2 true 31 with
      | false =>
        go_enter Tryz.func57, Tryz.ntmps57
        go_wp2_with (first | (go_at_call 30; refine (rform_any k hk _).mono ?_; rintro e w' ⟨rfl, rfl⟩; rw [hz]) | (go_at_call 83; refine (reg_any _ _ _).mono ?_; rintro e w' ⟨rfl, rfl⟩) | (go_at_call 84; refine (rsgn12 _ h0 h1 _).mono ?_; rintro e w' ⟨rfl, rfl⟩))
        go_ret
        exact ⟨ret_bool (by simp), (Below.refl _ _).alloc (Nat.le_refl _) _⟩
      | true =>
        by_cases d1 : csr < 0
        · have c4 : partB csr false 4095 = false := by simp [partB]; omega
          go_enter Tryz.func57, Tryz.ntmps57
          go_wp2_with (first | (go_at_call 30; refine (rform_any k hk _).mono ?_; rintro e w' ⟨rfl, rfl⟩; rw [hz]) | (go_at_call 83; refine (reg_any _ _ _).mono ?_; rintro e w' ⟨rfl, rfl⟩) | (go_at_call 84; refine (rsgn12 _ h0 h1 _).mono ?_; rintro e w' ⟨rfl, rfl⟩))
          go_ret
          exact ⟨ret_bool (by simp [c4]), (Below.refl _ _).alloc (Nat.le_refl _) _⟩
        · by_cases d2 : 4095 < csr
          · have c4 : partB csr false 4095 = false := by simp [partB]; omega
            go_enter Tryz.func57, Tryz.ntmps57
            go_wp2_with (first | (go_at_call 30; refine (rform_any k hk _).mono ?_; rintro e w' ⟨rfl, rfl⟩; rw [hz]) | (go_at_call 83; refine (reg_any _ _ _).mono ?_; rintro e w' ⟨rfl, rfl⟩) | (go_at_call 84; refine (rsgn12 _ h0 h1 _).mono ?_; rintro e w' ⟨rfl, rfl⟩))
            go_ret
            exact ⟨ret_bool (by simp [c4]), (Below.refl _ _).alloc (Nat.le_refl _) _⟩
          · by_cases d3 : csr = 0
            · have c4 : partB csr false 4095 = true := by simp [partB]; omega
              subst d3
              go_enter Tryz.func57, Tryz.ntmps57
              go_wp2_with (first | (go_at_call 30; refine (rform_any k hk _).mono ?_; rintro e w' ⟨rfl, rfl⟩; rw [hz]) | (go_at_call 83; refine (reg_any _ _ _).mono ?_; rintro e w' ⟨rfl, rfl⟩) | (go_at_call 84; refine (rsgn12 _ h0 h1 _).mono ?_; rintro e w' ⟨rfl, rfl⟩))
              go_ret
              exact ⟨ret_bool (by first | (rw [c4]; rfl) | rfl), (Below.refl _ _).alloc (Nat.le_refl _) _⟩
            · have c4 : partB csr false 4095 = false := by simp [partB]; omega
              have e0 : (csr != 0) = true := bne_iff_ne.2 d3
              go_enter Tryz.func57, Tryz.ntmps57
              go_wp2_with (first | (go_at_call 30; refine (rform_any k hk _).mono ?_; rintro e w' ⟨rfl, rfl⟩; rw [hz]) | (go_at_call 83; refine (reg_any _ _ _).mono ?_; rintro e w' ⟨rfl, rfl⟩) | (go_at_call 84; refine (rsgn12 _ h0 h1 _).mono ?_; rintro e w' ⟨rfl, rfl⟩))
              go_ret
              exact ⟨ret_bool (by simp [c4]), (Below.refl _ _).alloc (Nat.le_refl _) _⟩

set_option maxHeartbeats 1000000 in
theorem rright_6 (k : Nat) (rd rs1 rs2 imm csr : Int) (w : World) (hk : k < 58) (hz : formZ k = 6) (h0 : 0 ≤ imm) (h1 : imm < 4294967296) :
    Calls Tryz.prog 57 #[.agg #[.int .i64 k, .int .i64 rd, .int .i64 rs1, .int .i64 rs2, .int .u32 imm, .int .i64 csr]] w fun e w' => e = .returned (.bool (partB rd true 31 && (partB rs1 true 31 && (partB rs2 true 31 && (partB csr false 4095 && decide (imm = 0)))))) ∧ Below w.heap.size w w' := by
  cases c1 : partB rd true 31 with
  | false =>
    go_enter Tryz.func57, Tryz.ntmps57
    go_wp2_with (first | (go_at_call 30; refine (rform_any k hk _).mono ?_; rintro e w' ⟨rfl, rfl⟩; rw [hz]) | (go_at_call 83; refine (reg_any _ _ _).mono ?_; rintro e w' ⟨rfl, rfl⟩))
    go_ret
    exact ⟨ret_bool (by simp), (Below.refl _ _).alloc (Nat.le_refl _) _⟩
  | true =>
    cases c2 : partB rs1 true 31 with
    | false =>
      go_enter Tryz.func57, Tryz.ntmps57
      go_wp2_with (first | (go_at_call 30; refine (rform_any k hk _).mono ?_; rintro e w' ⟨rfl, rfl⟩; rw [hz]) | (go_at_call 83; refine (reg_any _ _ _).mono ?_; rintro e w' ⟨rfl, rfl⟩))
      go_ret
      exact ⟨ret_bool (by simp), (Below.refl _ _).alloc (Nat.le_refl _) _⟩
    | true =>
      cases c3 : partB rs2 true 31 with
      | false =>
        go_enter Tryz.func57, Tryz.ntmps57
        go_wp2_with (first | (go_at_call 30; refine (rform_any k hk _).mono ?_; rintro e w' ⟨rfl, rfl⟩; rw [hz]) | (go_at_call 83; refine (reg_any _ _ _).mono ?_; rintro e w' ⟨rfl, rfl⟩))
        go_ret
        exact ⟨ret_bool (by simp), (Below.refl _ _).alloc (Nat.le_refl _) _⟩
      | true =>
        by_cases d1 : csr < 0
        · have c4 : partB csr false 4095 = false := by simp [partB]; omega
          go_enter Tryz.func57, Tryz.ntmps57
          go_wp2_with (first | (go_at_call 30; refine (rform_any k hk _).mono ?_; rintro e w' ⟨rfl, rfl⟩; rw [hz]) | (go_at_call 83; refine (reg_any _ _ _).mono ?_; rintro e w' ⟨rfl, rfl⟩))
          go_ret
          exact ⟨ret_bool (by simp [c4]), (Below.refl _ _).alloc (Nat.le_refl _) _⟩
        · by_cases d2 : 4095 < csr
          · have c4 : partB csr false 4095 = false := by simp [partB]; omega
            go_enter Tryz.func57, Tryz.ntmps57
            go_wp2_with (first | (go_at_call 30; refine (rform_any k hk _).mono ?_; rintro e w' ⟨rfl, rfl⟩; rw [hz]) | (go_at_call 83; refine (reg_any _ _ _).mono ?_; rintro e w' ⟨rfl, rfl⟩))
            go_ret
            exact ⟨ret_bool (by simp [c4]), (Below.refl _ _).alloc (Nat.le_refl _) _⟩
          · by_cases d3 : csr = 0
            · have c4 : partB csr false 4095 = true := by simp [partB]; omega
              subst d3
              go_enter Tryz.func57, Tryz.ntmps57
              go_wp2_with (first | (go_at_call 30; refine (rform_any k hk _).mono ?_; rintro e w' ⟨rfl, rfl⟩; rw [hz]) | (go_at_call 83; refine (reg_any _ _ _).mono ?_; rintro e w' ⟨rfl, rfl⟩))
              go_ret
              exact ⟨ret_bool (by first | (rw [c4]; rfl) | rfl), (Below.refl _ _).alloc (Nat.le_refl _) _⟩
            · have c4 : partB csr false 4095 = false := by simp [partB]; omega
              have e0 : (csr != 0) = true := bne_iff_ne.2 d3
              go_enter Tryz.func57, Tryz.ntmps57
              go_wp2_with (first | (go_at_call 30; refine (rform_any k hk _).mono ?_; rintro e w' ⟨rfl, rfl⟩; rw [hz]) | (go_at_call 83; refine (reg_any _ _ _).mono ?_; rintro e w' ⟨rfl, rfl⟩))
              go_ret
              exact ⟨ret_bool (by simp [c4]), (Below.refl _ _).alloc (Nat.le_refl _) _⟩

set_option maxHeartbeats 1000000 in
theorem rright_7 (k : Nat) (rd rs1 rs2 imm csr : Int) (w : World) (hk : k < 58) (hz : formZ k = 7) (h0 : 0 ≤ imm) (h1 : imm < 4294967296) :
    Calls Tryz.prog 57 #[.agg #[.int .i64 k, .int .i64 rd, .int .i64 rs1, .int .i64 rs2, .int .u32 imm, .int .i64 csr]] w fun e w' => e = .returned (.bool (partB rd true 31 && (partB rs1 true 31 && (partB rs2 false 31 && (partB csr false 4095 && decide (imm < 32)))))) ∧ Below w.heap.size w w' := by
  cases c1 : partB rd true 31 with
  | false =>
    go_enter Tryz.func57, Tryz.ntmps57
    go_wp2_with (first | (go_at_call 30; refine (rform_any k hk _).mono ?_; rintro e w' ⟨rfl, rfl⟩; rw [hz]) | (go_at_call 83; refine (reg_any _ _ _).mono ?_; rintro e w' ⟨rfl, rfl⟩))
    go_ret
    exact ⟨ret_bool (by simp), (Below.refl _ _).alloc (Nat.le_refl _) _⟩
  | true =>
    cases c2 : partB rs1 true 31 with
    | false =>
      go_enter Tryz.func57, Tryz.ntmps57
      go_wp2_with (first | (go_at_call 30; refine (rform_any k hk _).mono ?_; rintro e w' ⟨rfl, rfl⟩; rw [hz]) | (go_at_call 83; refine (reg_any _ _ _).mono ?_; rintro e w' ⟨rfl, rfl⟩))
      go_ret
      exact ⟨ret_bool (by simp), (Below.refl _ _).alloc (Nat.le_refl _) _⟩
    | true =>
      cases c3 : partB rs2 false 31 with
      | false =>
        go_enter Tryz.func57, Tryz.ntmps57
        go_wp2_with (first | (go_at_call 30; refine (rform_any k hk _).mono ?_; rintro e w' ⟨rfl, rfl⟩; rw [hz]) | (go_at_call 83; refine (reg_any _ _ _).mono ?_; rintro e w' ⟨rfl, rfl⟩))
        go_ret
        exact ⟨ret_bool (by simp), (Below.refl _ _).alloc (Nat.le_refl _) _⟩
      | true =>
        by_cases d1 : csr < 0
        · have c4 : partB csr false 4095 = false := by simp [partB]; omega
          go_enter Tryz.func57, Tryz.ntmps57
          go_wp2_with (first | (go_at_call 30; refine (rform_any k hk _).mono ?_; rintro e w' ⟨rfl, rfl⟩; rw [hz]) | (go_at_call 83; refine (reg_any _ _ _).mono ?_; rintro e w' ⟨rfl, rfl⟩))
          go_ret
          exact ⟨ret_bool (by simp [c4]), (Below.refl _ _).alloc (Nat.le_refl _) _⟩
        · by_cases d2 : 4095 < csr
          · have c4 : partB csr false 4095 = false := by simp [partB]; omega
            go_enter Tryz.func57, Tryz.ntmps57
            go_wp2_with (first | (go_at_call 30; refine (rform_any k hk _).mono ?_; rintro e w' ⟨rfl, rfl⟩; rw [hz]) | (go_at_call 83; refine (reg_any _ _ _).mono ?_; rintro e w' ⟨rfl, rfl⟩))
            go_ret
            exact ⟨ret_bool (by simp [c4]), (Below.refl _ _).alloc (Nat.le_refl _) _⟩
          · by_cases d3 : csr = 0
            · have c4 : partB csr false 4095 = true := by simp [partB]; omega
              subst d3
              go_enter Tryz.func57, Tryz.ntmps57
              go_wp2_with (first | (go_at_call 30; refine (rform_any k hk _).mono ?_; rintro e w' ⟨rfl, rfl⟩; rw [hz]) | (go_at_call 83; refine (reg_any _ _ _).mono ?_; rintro e w' ⟨rfl, rfl⟩))
              go_ret
              exact ⟨ret_bool (by first | (rw [c4]; rfl) | rfl), (Below.refl _ _).alloc (Nat.le_refl _) _⟩
            · have c4 : partB csr false 4095 = false := by simp [partB]; omega
              have e0 : (csr != 0) = true := bne_iff_ne.2 d3
              go_enter Tryz.func57, Tryz.ntmps57
              go_wp2_with (first | (go_at_call 30; refine (rform_any k hk _).mono ?_; rintro e w' ⟨rfl, rfl⟩; rw [hz]) | (go_at_call 83; refine (reg_any _ _ _).mono ?_; rintro e w' ⟨rfl, rfl⟩))
              go_ret
              exact ⟨ret_bool (by simp [c4]), (Below.refl _ _).alloc (Nat.le_refl _) _⟩

set_option maxHeartbeats 1000000 in
theorem rright_8 (k : Nat) (rd rs1 rs2 imm csr : Int) (w : World) (hk : k < 58) (hz : formZ k = 8) (h0 : 0 ≤ imm) (h1 : imm < 4294967296) :
    Calls Tryz.prog 57 #[.agg #[.int .i64 k, .int .i64 rd, .int .i64 rs1, .int .i64 rs2, .int .u32 imm, .int .i64 csr]] w fun e w' => e = .returned (.bool (partB rd true 31 && (partB rs1 true 31 && (partB rs2 false 31 && (partB csr true 4095 && decide (imm = 0)))))) ∧ Below w.heap.size w w' := by
  cases c1 : partB rd true 31 with
  | false =>
    go_enter Tryz.func57, Tryz.ntmps57
    go_wp2_with (first | (go_at_call 30; refine (rform_any k hk _).mono ?_; rintro e w' ⟨rfl, rfl⟩; rw [hz]) | (go_at_call 83; refine (reg_any _ _ _).mono ?_; rintro e w' ⟨rfl, rfl⟩))
    go_ret
    exact ⟨ret_bool (by simp), (Below.refl _ _).alloc (Nat.le_refl _) _⟩
  | true =>
    cases c2 : partB rs1 true 31 with
    | false =>
      go_enter Tryz.func57, Tryz.ntmps57
      go_wp2_with (first | (go_at_call 30; refine (rform_any k hk _).mono ?_; rintro e w' ⟨rfl, rfl⟩; rw [hz]) | (go_at_call 83; refine (reg_any _ _ _).mono ?_; rintro e w' ⟨rfl, rfl⟩))
      go_ret
      exact ⟨ret_bool (by simp), (Below.refl _ _).alloc (Nat.le_refl _) _⟩
    | true =>
      cases c3 : partB rs2 false 31 with
      | false =>
        go_enter Tryz.func57, Tryz.ntmps57
        go_wp2_with (first | (go_at_call 30; refine (rform_any k hk _).mono ?_; rintro e w' ⟨rfl, rfl⟩; rw [hz]) | (go_at_call 83; refine (reg_any _ _ _).mono ?_; rintro e w' ⟨rfl, rfl⟩))
        go_ret
        exact ⟨ret_bool (by simp), (Below.refl _ _).alloc (Nat.le_refl _) _⟩
      | true =>
        by_cases d1 : csr < 0
        · have c4 : partB csr true 4095 = false := by simp [partB]; omega
          go_enter Tryz.func57, Tryz.ntmps57
          go_wp2_with (first | (go_at_call 30; refine (rform_any k hk _).mono ?_; rintro e w' ⟨rfl, rfl⟩; rw [hz]) | (go_at_call 83; refine (reg_any _ _ _).mono ?_; rintro e w' ⟨rfl, rfl⟩))
          go_ret
          exact ⟨ret_bool (by simp [c4]), (Below.refl _ _).alloc (Nat.le_refl _) _⟩
        · by_cases d2 : 4095 < csr
          · have c4 : partB csr true 4095 = false := by simp [partB]; omega
            go_enter Tryz.func57, Tryz.ntmps57
            go_wp2_with (first | (go_at_call 30; refine (rform_any k hk _).mono ?_; rintro e w' ⟨rfl, rfl⟩; rw [hz]) | (go_at_call 83; refine (reg_any _ _ _).mono ?_; rintro e w' ⟨rfl, rfl⟩))
            go_ret
            exact ⟨ret_bool (by simp [c4]), (Below.refl _ _).alloc (Nat.le_refl _) _⟩
          · have c4 : partB csr true 4095 = true := by simp [partB]; omega
            go_enter Tryz.func57, Tryz.ntmps57
            go_wp2_with (first | (go_at_call 30; refine (rform_any k hk _).mono ?_; rintro e w' ⟨rfl, rfl⟩; rw [hz]) | (go_at_call 83; refine (reg_any _ _ _).mono ?_; rintro e w' ⟨rfl, rfl⟩))
            go_ret
            exact ⟨ret_bool (by first | (rw [c4]; rfl) | rfl), (Below.refl _ _).alloc (Nat.le_refl _) _⟩

set_option maxHeartbeats 1000000 in
theorem rright_9 (k : Nat) (rd rs1 rs2 imm csr : Int) (w : World) (hk : k < 58) (hz : formZ k = 9) (h0 : 0 ≤ imm) (h1 : imm < 4294967296) :
    Calls Tryz.prog 57 #[.agg #[.int .i64 k, .int .i64 rd, .int .i64 rs1, .int .i64 rs2, .int .u32 imm, .int .i64 csr]] w fun e w' => e = .returned (.bool (partB rd true 31 && (partB rs1 false 31 && (partB rs2 false 31 && (partB csr true 4095 && decide (imm < 32)))))) ∧ Below w.heap.size w w' := by
  cases c1 : partB rd true 31 with
  | false =>
    go_enter Tryz.func57, Tryz.ntmps57
    go_wp2_with (first | (go_at_call 30; refine (rform_any k hk _).mono ?_; rintro e w' ⟨rfl, rfl⟩; rw [hz]) | (go_at_call 83; refine (reg_any _ _ _).mono ?_; rintro e w' ⟨rfl, rfl⟩))
    go_ret
    exact ⟨ret_bool (by simp), (Below.refl _ _).alloc (Nat.le_refl _) _⟩
  | true =>
    cases c2 : partB rs1 false 31 with
    | false =>
      go_enter Tryz.func57, Tryz.ntmps57
      go_wp2_with (first | (go_at_call 30; refine (rform_any k hk _).mono ?_; rintro e w' ⟨rfl, rfl⟩; rw [hz]) | (go_at_call 83; refine (reg_any _ _ _).mono ?_; rintro e w' ⟨rfl, rfl⟩))
      go_ret
      exact ⟨ret_bool (by simp), (Below.refl _ _).alloc (Nat.le_refl _) _⟩
    | true =>
      cases c3 : partB rs2 false 31 with
      | false =>
        go_enter Tryz.func57, Tryz.ntmps57
        go_wp2_with (first | (go_at_call 30; refine (rform_any k hk _).mono ?_; rintro e w' ⟨rfl, rfl⟩; rw [hz]) | (go_at_call 83; refine (reg_any _ _ _).mono ?_; rintro e w' ⟨rfl, rfl⟩))
        go_ret
        exact ⟨ret_bool (by simp), (Below.refl _ _).alloc (Nat.le_refl _) _⟩
      | true =>
        by_cases d1 : csr < 0
        · have c4 : partB csr true 4095 = false := by simp [partB]; omega
          go_enter Tryz.func57, Tryz.ntmps57
          go_wp2_with (first | (go_at_call 30; refine (rform_any k hk _).mono ?_; rintro e w' ⟨rfl, rfl⟩; rw [hz]) | (go_at_call 83; refine (reg_any _ _ _).mono ?_; rintro e w' ⟨rfl, rfl⟩))
          go_ret
          exact ⟨ret_bool (by simp [c4]), (Below.refl _ _).alloc (Nat.le_refl _) _⟩
        · by_cases d2 : 4095 < csr
          · have c4 : partB csr true 4095 = false := by simp [partB]; omega
            go_enter Tryz.func57, Tryz.ntmps57
            go_wp2_with (first | (go_at_call 30; refine (rform_any k hk _).mono ?_; rintro e w' ⟨rfl, rfl⟩; rw [hz]) | (go_at_call 83; refine (reg_any _ _ _).mono ?_; rintro e w' ⟨rfl, rfl⟩))
            go_ret
            exact ⟨ret_bool (by simp [c4]), (Below.refl _ _).alloc (Nat.le_refl _) _⟩
          · have c4 : partB csr true 4095 = true := by simp [partB]; omega
            go_enter Tryz.func57, Tryz.ntmps57
            go_wp2_with (first | (go_at_call 30; refine (rform_any k hk _).mono ?_; rintro e w' ⟨rfl, rfl⟩; rw [hz]) | (go_at_call 83; refine (reg_any _ _ _).mono ?_; rintro e w' ⟨rfl, rfl⟩))
            go_ret
            exact ⟨ret_bool (by first | (rw [c4]; rfl) | rfl), (Below.refl _ _).alloc (Nat.le_refl _) _⟩
end Go.Proofs.YthgolbmngjdbeaaGreatDoor

/- Layer 2: the document's own Right, of any instruction (whole). -/
namespace Go.Proofs.YthgolbmngjdbeaaGreatDoor
open Go.RowKit
set_option linter.unusedVariables false

theorem rright_yes (k : Nat) (rd rs1 rs2 imm csr : Int) (w : World) (hk : k < 58) (h0 : 0 ≤ imm) (h1 : imm < 4294967296) :
    Calls Tryz.prog 57 #[.agg #[.int .i64 k, .int .i64 rd, .int .i64 rs1, .int .i64 rs2, .int .u32 imm, .int .i64 csr]] w fun e w' => e = .returned (.bool (rightOf (formZ k) rd rs1 rs2 imm csr)) ∧ Below w.heap.size w w' := by
  rcases form10 (formZ_lt k hk) with hz | hz | hz | hz | hz | hz | hz | hz | hz | hz
  · have e : rightOf 0 rd rs1 rs2 imm csr = (partB rd false 31 && (partB rs1 false 31 && (partB rs2 false 31 && (partB csr false 4095 && decide (imm = 0))))) := rfl
    have h := rright_0 k rd rs1 rs2 imm csr w hk hz h0 h1
    rw [← e] at h
    rw [hz]
    exact h
  · have e : rightOf 1 rd rs1 rs2 imm csr = (partB rd true 31 && (partB rs1 false 31 && (partB rs2 false 31 && (partB csr false 4095 && decide (imm % 4096 = 0))))) := rfl
    have h := rright_1 k rd rs1 rs2 imm csr w hk hz h0 h1
    rw [← e] at h
    rw [hz]
    exact h
  · have e : rightOf 2 rd rs1 rs2 imm csr = (partB rd true 31 && (partB rs1 false 31 && (partB rs2 false 31 && (partB csr false 4095 && (evenB imm && sgB imm 1048576))))) := rfl
    have h := rright_2 k rd rs1 rs2 imm csr w hk hz h0 h1
    rw [← e] at h
    rw [hz]
    exact h
  · have e : rightOf 3 rd rs1 rs2 imm csr = (partB rd true 31 && (partB rs1 true 31 && (partB rs2 false 31 && (partB csr false 4095 && sgB imm 2048)))) := rfl
    have h := rright_3 k rd rs1 rs2 imm csr w hk hz h0 h1
    rw [← e] at h
    rw [hz]
    exact h
  · have e : rightOf 4 rd rs1 rs2 imm csr = (partB rd false 31 && (partB rs1 true 31 && (partB rs2 true 31 && (partB csr false 4095 && (evenB imm && sgB imm 4096))))) := rfl
    have h := rright_4 k rd rs1 rs2 imm csr w hk hz h0 h1
    rw [← e] at h
    rw [hz]
    exact h
  · have e : rightOf 5 rd rs1 rs2 imm csr = (partB rd false 31 && (partB rs1 true 31 && (partB rs2 true 31 && (partB csr false 4095 && sgB imm 2048)))) := rfl
    have h := rright_5 k rd rs1 rs2 imm csr w hk hz h0 h1
    rw [← e] at h
    rw [hz]
    exact h
  · have e : rightOf 6 rd rs1 rs2 imm csr = (partB rd true 31 && (partB rs1 true 31 && (partB rs2 true 31 && (partB csr false 4095 && decide (imm = 0))))) := rfl
    have h := rright_6 k rd rs1 rs2 imm csr w hk hz h0 h1
    rw [← e] at h
    rw [hz]
    exact h
  · have e : rightOf 7 rd rs1 rs2 imm csr = (partB rd true 31 && (partB rs1 true 31 && (partB rs2 false 31 && (partB csr false 4095 && decide (imm < 32))))) := rfl
    have h := rright_7 k rd rs1 rs2 imm csr w hk hz h0 h1
    rw [← e] at h
    rw [hz]
    exact h
  · have e : rightOf 8 rd rs1 rs2 imm csr = (partB rd true 31 && (partB rs1 true 31 && (partB rs2 false 31 && (partB csr true 4095 && decide (imm = 0))))) := rfl
    have h := rright_8 k rd rs1 rs2 imm csr w hk hz h0 h1
    rw [← e] at h
    rw [hz]
    exact h
  · have e : rightOf 9 rd rs1 rs2 imm csr = (partB rd true 31 && (partB rs1 false 31 && (partB rs2 false 31 && (partB csr true 4095 && decide (imm < 32))))) := rfl
    have h := rright_9 k rd rs1 rs2 imm csr w hk hz h0 h1
    rw [← e] at h
    rw [hz]
    exact h
end Go.Proofs.YthgolbmngjdbeaaGreatDoor

/- The walk of mimesislaw02.InstRight: it answers true and turns nothing that was there. -/
namespace Go.Proofs.YthgolbmngjdbeaaGreatDoor
open Go.RowKit
set_option linter.unusedVariables false

/-- What was boxed lies there still. -/
theorem box_at {w w1 : World} {cs : Array Value} {t : TypeId} (hb : Below (w.alloc (.cells cs t)).heap.size (w.alloc (.cells cs t)) w1) (i : Nat) : w1.cell? ⟨w.heap.size, i, none⟩ = cs[i]? := by
  rw [hb.cell (p := ⟨w.heap.size, i, none⟩) (by simp), World.cell?_alloc_at cs t _ i rfl]

/-- What lay there lies there still. -/
theorem cell_on {W w1 : World} {b o : Nat} {p : Option Nat} {v : Value} (hb : Below W.heap.size W w1) (h : W.cell? ⟨b, o, p⟩ = some v) : w1.cell? ⟨b, o, p⟩ = some v := by
  rw [hb.cell (p := ⟨b, o, p⟩) (lt_of_cell h)]; exact h

theorem iright_any (op rd rs1 rs2 imm csr : Int) (w : World) (h0 : 0 ≤ imm) (h1 : imm < 4294967296) (ht : FormTab w) :
    Calls Tryz.prog 19 #[.agg #[.int .i64 op, .int .i64 rd, .int .i64 rs1, .int .i64 rs2, .int .u32 imm, .int .i64 csr]] w fun e w' => e = .returned (.bool (rightB op rd rs1 rs2 imm csr)) ∧ Below w.heap.size w w' := by
  cases ho : opB op with
  | false => rw [rightB_no ho]; exact iright_no op rd rs1 rs2 imm csr w ho
  | true =>
    have hn := opB_yes ho
    obtain ⟨k, rfl⟩ := Int.eq_ofNat_of_zero_le hn.1
    rw [rightB_nat (by omega)]
    exact iright_yes k rd rs1 rs2 imm csr w (by omega) h0 h1 ht

theorem rright2_any (op rd rs1 rs2 imm csr : Int) (w : World) (h0 : 0 ≤ imm) (h1 : imm < 4294967296) :
    Calls Tryz.prog 57 #[.agg #[.int .i64 op, .int .i64 rd, .int .i64 rs1, .int .i64 rs2, .int .u32 imm, .int .i64 csr]] w fun e w' => e = .returned (.bool (rightB op rd rs1 rs2 imm csr)) ∧ Below w.heap.size w w' := by
  cases ho : opB op with
  | false => rw [rightB_no ho]; exact rright_no op rd rs1 rs2 imm csr w ho
  | true =>
    have hn := opB_yes ho
    obtain ⟨k, rfl⟩ := Int.eq_ofNat_of_zero_le hn.1
    rw [rightB_nat (by omega)]
    exact rright_yes k rd rs1 rs2 imm csr w (by omega) h0 h1

namespace instRight
end instRight
end Go.Proofs.YthgolbmngjdbeaaGreatDoor

/- Layer 6: the document's own Line. -/
namespace Go.Proofs.YthgolbmngjdbeaaGreatDoor
open Go.RowKit
set_option linter.unusedVariables false
set_option linter.unusedSimpArgs false

theorem pcs_bd : ∀ (r : List UInt8) (out : List (List UInt8)) (p : List UInt8) (N : Nat) (ps : List (List UInt8)), 1 ≤ N → (∀ q ∈ out, q.length ≤ N) → p.length + r.length ≤ N → pcs r out p = some ps → (∀ q ∈ ps, q.length ≤ N) ∧ ps.length ≤ out.length + 2 * r.length + 1
  | [], out, p, N, ps, h1, ho, hp, h => by
    simp only [pcs, Option.some.injEq] at h
    subst h
    unfold flushP
    split
    · exact ⟨ho, by simp⟩
    · refine ⟨fun q hq => ?_, by simp⟩
      rcases List.mem_append.1 hq with hq | hq
      · exact ho q hq
      · simp at hq; subst hq; simpa using hp
  | c :: r, out, p, N, ps, h1, ho, hp, h => by
    have hf : (∀ q ∈ flushP out p, q.length ≤ N) ∧ (flushP out p).length ≤ out.length + 1 := by
      unfold flushP
      split
      · exact ⟨ho, by omega⟩
      · refine ⟨fun q hq => ?_, by simp⟩
        rcases List.mem_append.1 hq with hq | hq
        · exact ho q hq
        · simp at hq; subst hq; simp at hp; omega
    simp only [List.length_cons] at hp ⊢
    rw [pcs] at h
    split at h
    · have := pcs_bd r out (p ++ [c]) N ps h1 ho (by simp; omega) h
      exact ⟨this.1, by omega⟩
    split at h
    · cases h
    split at h
    · simp only [Option.some.injEq] at h
      subst h
      exact ⟨hf.1, by omega⟩
    split at h
    · have := pcs_bd r (flushP out p ++ [ [c] ]) [] N ps h1 (fun q hq => by
        rcases List.mem_append.1 hq with hq | hq
        · exact hf.1 q hq
        · simp at hq; subst hq; simpa using h1) (by simp; omega) h
      refine ⟨this.1, ?_⟩
      have h3 := this.2
      simp only [List.length_append, List.length_cons, List.length_nil] at h3
      omega
    · have := pcs_bd r (flushP out p) [] N ps h1 hf.1 (by simp; omega) h
      exact ⟨this.1, by omega⟩
theorem pieces_bd {l : List UInt8} {ps : List (List UInt8)} (h : piecesL l = some ps) (hl : l.length ≤ 70000) : (∀ q ∈ ps, q.length ≤ 70000) ∧ ps.length ≤ 200000 := by
  have := pcs_bd l [] [] 70000 ps (by omega) (fun _ h => by cases h) (by simpa using hl) h
  exact ⟨this.1, by have := this.2; simp at this; omega⟩
theorem isStrs_own {w : World} {B : Nat} {v : Value} {ls : List (List UInt8)} (h : w.ownsRow B 9 1 v ls.length (ls.map sV)) : IsStrs w v ls := by
  by_cases h0 : ls.length = 0
  · obtain ⟨p, c, hv⟩ : ∃ p c, v = .slice p ls.length c := by
      rcases h.2 with ⟨rfl, e⟩ | ⟨g, cap, cur, rfl, _⟩
      · rw [e]; exact ⟨_, _, rfl⟩
      · exact ⟨_, _, rfl⟩
    exact ⟨p, c, hv, .inl h0⟩
  · obtain ⟨g, c, rfl⟩ := owned_some h (by omega)
    refine ⟨_, c, rfl, .inr ⟨g, 0, rfl, fun i hi => ?_⟩⟩
    rw [Nat.zero_add, h.cellAt i (by omega)]
    simp [List.getD, hi, sV]
theorem read_bd {ps : List (List UInt8)} {x : It} (h : readL ps = some x) : ImmB x := by
  unfold readL at h
  split at h
  · obtain ⟨n, hn, rfl⟩ := Option.map_eq_some_iff.1 h
    exact ⟨by show (0 : Int) ≤ 0; decide, by show (0 : Int) < 4294967296; decide⟩
  split at h
  · cases h
  · obtain ⟨y, hy, h⟩ := Option.bind_eq_some_iff.1 h
    have hb := fillsL_bd (x := itOp _) ⟨(by show (0 : Int) ≤ 0; decide), (by show (0 : Int) < 4294967296; decide)⟩ hy
    unfold finL at h
    split at h
    · split at h
      · cases h
      · rename_i hlt
        simp only [Option.some.injEq] at h
        subst h
        have h0 := hb.1
        exact ⟨by show 0 ≤ y.2.2.2.2.1 * 4096; omega, by show y.2.2.2.2.1 * 4096 < 4294967296; omega⟩
    · simp only [Option.some.injEq] at h
      subst h; exact hb
theorem read_word_bd {ps : List (List UInt8)} {x : It} (h : readL ps = some x) : x.2.2.2.2.2.2.2.2 = true → 0 ≤ x.2.2.2.2.2.2.2.1 ∧ x.2.2.2.2.2.2.2.1 < 4294967296 := by
  unfold readL at h
  split at h
  · obtain ⟨n, hn, rfl⟩ := Option.map_eq_some_iff.1 h
    exact fun _ => numW_some hn
  split at h
  · cases h
  · intro hr
    obtain ⟨y, hy, h⟩ := Option.bind_eq_some_iff.1 h
    have raw : ∀ {ws ps : List (List UInt8)} {x y : It}, fillsL x ws ps = some y → y.2.2.2.2.2.2.2.2 = x.2.2.2.2.2.2.2.2 := by
      intro ws
      induction ws with
      | nil => intro ps x y h; rw [fillsL_nil] at h; cases h; rfl
      | cons a ws ih =>
        intro ps x y h
        cases ps with
        | nil => simp only [fillsL, Option.some.injEq] at h; subst h; rfl
        | cons b ps =>
          rw [fillsL] at h
          obtain ⟨z, hz, h⟩ := Option.bind_eq_some_iff.1 h
          rw [ih h]
          unfold fillL at hz
          repeat' split at hz
          all_goals first
            | (cases hz; done)
            | (cases hz; rfl)
            | (obtain ⟨n, _, rfl⟩ := Option.map_eq_some_iff.1 hz; rfl)
    have hy' := raw hy
    unfold finL at h
    repeat' split at h
    all_goals first
      | (cases h; done)
      | (simp only [Option.some.injEq] at h; subst h; rw [show _ = y.2.2.2.2.2.2.2.2 from rfl, hy'] at hr; cases hr)

def SixG (V : World) (B : Nat) (a b c d e f : Int) : Prop := V.heap[B]? = some (.cells #[.int .i64 a, .int .i64 b, .int .i64 c, .int .i64 d, .int .u32 e, .int .i64 f] 30)
theorem SixG.cells {V : World} {B : Nat} {a b c d e f : Int} (h : SixG V B a b c d e f) : V.cell? ⟨B, 0, none⟩ = some (.int .i64 a) ∧ V.cell? ⟨B, 1, none⟩ = some (.int .i64 b) ∧ V.cell? ⟨B, 2, none⟩ = some (.int .i64 c) ∧ V.cell? ⟨B, 3, none⟩ = some (.int .i64 d) ∧ V.cell? ⟨B, 4, none⟩ = some (.int .u32 e) ∧ V.cell? ⟨B, 5, none⟩ = some (.int .i64 f) := by
  unfold SixG at h
  refine ⟨?_, ?_, ?_, ?_, ?_, ?_⟩ <;> simp [World.cell?, h]
theorem SixG.free {V : World} {B : Nat} {a b c d e f : Int} (h : SixG V B a b c d e f) : ∀ j, V.frozen? ⟨B, j, none⟩ = false := by
  unfold SixG at h
  intro j
  simp [World.frozen?, h]
theorem SixG.on {V W : World} {B : Nat} {a b c d e f : Int} (h : SixG V B a b c d e f) (hb : Below V.heap.size V W) : SixG W B a b c d e f := by
  unfold SixG at *
  rw [hb.block B (Array.getElem?_eq_some_iff.1 h).1]; exact h
theorem sixG_new (w : World) (a b c d e f : Int) : SixG (w.alloc (.cells #[.int .i64 a, .int .i64 b, .int .i64 c, .int .i64 d, .int .u32 e, .int .i64 f] 30)) w.heap.size a b c d e f := heap_alloc_new w _
theorem SixG.put {V : World} {B : Nat} {a' b' c' d' e' f' : Int} (h : SixG V B a' b' c' d' e' f') (a b c d e f : Int) :
    ∃ V', ((((((V.setCell ⟨B, 0, none⟩ (.int .i64 a)).setCell ⟨B, 1, none⟩ (.int .i64 b)).setCell ⟨B, 2, none⟩ (.int .i64 c)).setCell ⟨B, 3, none⟩ (.int .i64 d)).setCell ⟨B, 4, none⟩ (.int .u32 e)).setCell ⟨B, 5, none⟩ (.int .i64 f)) = V' ∧ SixG V' B a b c d e f ∧ OnlyB B V V' := by
  unfold SixG at h
  refine ⟨_, rfl, ?_, ((((((OnlyB.refl B V).set 0 _).set 1 _).set 2 _).set 3 _).set 4 _).set 5 _⟩
  have r0 := row_step (i := 0) h (.int .i64 a)
  have r1 := row_step (i := 1) r0 (.int .i64 b)
  have r2 := row_step (i := 2) r1 (.int .i64 c)
  have r3 := row_step (i := 3) r2 (.int .i64 d)
  have r4 := row_step (i := 4) r3 (.int .u32 e)
  have r5 := row_step (i := 5) r4 (.int .i64 f)
  unfold SixG
  rw [r5]
  simp only [List.setIfInBounds_toArray, List.set_cons_zero, List.set_cons_succ]

def six6 (x : I6) : Value := .agg #[.int .i64 x.1, .int .i64 x.2.1, .int .i64 x.2.2.1, .int .i64 x.2.2.2.1, .int .u32 x.2.2.2.2.1, .int .i64 x.2.2.2.2.2]
end Go.Proofs.YthgolbmngjdbeaaGreatDoor

/- Layer 6: the document's own Line, walked. -/
namespace Go.Proofs.YthgolbmngjdbeaaGreatDoor
open Go.RowKit
set_option linter.unusedVariables false
set_option linter.unusedSimpArgs false

theorem bs_toList (l : List UInt8) : (bs l).data.toList = l := by simp [bs]
theorem six_ret {V : World} {a b c d e f : Int} {x : I6} (h : x = (a, b, c, d, e, f)) : (.agg #[.int .i64 a, .int .i64 b, .int .i64 c, .int .i64 d, .int .u32 e, .int .i64 f] : Value) = six6 x := by rw [h]; rfl

end Go.Proofs.YthgolbmngjdbeaaGreatDoor

/- Layer 6, the program's own Line. -/
namespace Go.Proofs.YthgolbmngjdbeaaGreatDoor
open Go.RowKit
set_option linter.unusedVariables false
set_option linter.unusedSimpArgs false

theorem upW_some {s : List UInt8} {n : Int} (h : upW s = some n) : 0 ≤ n ∧ n < 4294967296 := by
  unfold upW at h
  obtain ⟨m, hm, h⟩ := Option.bind_eq_some_iff.1 h
  have := numW_some hm
  split at h
  · cases h
  · rename_i g
    simp only [Option.some.injEq] at h
    omega
theorem takeL_bd {x y : It} {what s : List UInt8} (hx : ImmB x) (h : takeL x what s = some y) : ImmB y := by
  unfold takeL at h
  have M : ∀ {f : Int → It}, (∀ n, 0 ≤ n → n < 4294967296 → ImmB (f n)) → (numW s).map f = some y → ImmB y := fun {f} hf h => by
    obtain ⟨n, hn, rfl⟩ := Option.map_eq_some_iff.1 h
    exact hf n (numW_some hn).1 (numW_some hn).2
  split at h
  · split at h
    · cases h; exact hx
    · cases h
  split at h
  · split at h
    · cases h; exact hx
    · cases h
  split at h
  · split at h
    · cases h; exact hx
    · cases h
  split at h
  · exact M (f := fun n => (x.1, x.2.1, x.2.2.1, x.2.2.2.1, x.2.2.2.2.1, n, x.2.2.2.2.2.2)) (fun n h0 h1 => hx) h
  split at h
  · obtain ⟨n, hn, rfl⟩ := Option.map_eq_some_iff.1 h
    exact upW_some hn
  split at h
  · split at h
    · cases h; exact hx
    · exact M (fun n h0 h1 => ⟨h0, h1⟩) h
  split at h
  · exact M (fun n h0 h1 => ⟨h0, h1⟩) h
  split at h
  · cases h; exact hx
  · cases h
theorem takesL_bd : ∀ {ws ps : List (List UInt8)} {x y : It}, ImmB x → takesL x ws ps = some y → ImmB y
  | [], ps, x, y, hx, h => by
    rw [takesL_nil] at h; cases h; exact hx
  | w :: ws, [], x, y, hx, h => by
    simp only [takesL, Option.some.injEq] at h; subst h; exact hx
  | w :: ws, p :: ps, x, y, hx, h => by
    rw [takesL] at h
    obtain ⟨z, hz, h⟩ := Option.bind_eq_some_iff.1 h
    exact takesL_bd (takeL_bd hx hz) h
theorem insG_bd {ill : Bool} {ps : List (List UInt8)} {x : It} (h : insG ill ps = some x) : ImmB x := by
  unfold insG at h
  split at h
  · cases h
  split at h
  · cases h
  split at h
  · cases h
  exact takesL_bd (x := itOp _) ⟨(by show (0 : Int) ≤ 0; decide), (by show (0 : Int) < 4294967296; decide)⟩ h

def itG (o : Option It) : I6 × Int :=
  match o with
  | none => (zero6, 1)
  | some x => if x.2.2.2.2.2.2.1 ≠ [] then (zero6, 1) else if right6 x = true then (ins6 x, 0) else (zero6, 9)
/-- A line, as the program reads it. -/
def lineG (ill : Bool) (l : List UInt8) : I6 × Int :=
  match piecesL l with
  | none => (zero6, 1)
  | some ps => itG (insG ill ps)
theorem own_cap6 {w : World} {B s n : Nat} {e : TypeId} {v : Value} {xs : List Value} (h : w.ownsRow B e s v n xs) : ∀ a n' c, v = .slice a n' c → n' ≤ c := by
  intro a n' c hv
  rcases h.2 with ⟨e, _⟩ | ⟨g, cap, cur, e, _, _, hn, _⟩
  · rw [e] at hv; simp only [Value.slice.injEq] at hv; omega
  · rw [e] at hv; simp only [Value.slice.injEq] at hv; omega

set_option maxRecDepth 100000 in
set_option maxHeartbeats 2000000 in
theorem line6_any (l : List UInt8) (w : World) (hl : l.length ≤ 70000) (hF : FormTab w) (hN : NameTab w) (hS : SpTab w) :
    Calls Tryz.prog 7 #[.string (bs l)] w fun e w' => e = .returned (.tuple #[six6 (lineG false l).1, .int .i64 (lineG false l).2]) ∧ Below w.heap.size w w' := by
  have HL : Hid (l.length ≤ 70000) := hl
  have hB : Below w.heap.size w (w.alloc (.cells #[.int .i64 0, .int .i64 0, .int .i64 0, .int .i64 0, .int .u32 0, .int .i64 0] 30)) := (Below.refl _ _).alloc (Nat.le_refl _) _
  have HB := Lib.hid hB
  have HS := Lib.hid (sixG_new w 0 0 0 0 0 0)
  have HFT := Lib.hid hF
  have HNT := Lib.hid hN
  have HST := Lib.hid hS
  clear hB hl hF hN hS
  go_enter Tryz.func7, Tryz.ntmps7
  go_wp2_with fail
  generalize w.alloc (.cells #[.int .i64 0, .int .i64 0, .int .i64 0, .int .i64 0, .int .u32 0, .int .i64 0] 30) = W at *
  refine (pieces6_any l _ HL.out).mono ?_
  rintro e w1 ⟨hcase, hb1⟩
  have HB1 : Hid (Below w.heap.size w w1) := HB.out.trans (hb1.mono HB.out.size)
  have HS1 := Lib.hid (SixG.on HS.out hb1)
  clear hb1 HB HS
  rcases hcase with ⟨ps, v, hps, rfl, hown⟩ | ⟨hps, rfl⟩
  · have HV := Lib.hid (isStrs_own hown)
    have HCP := Lib.hid (own_cap6 hown)
    have HPB := Lib.hid (pieces_bd hps HL.out)
    have HLL : Hid (lineG false l = itG (insG false ps)) := by
      show lineG false l = _
      unfold lineG; rw [hps]
    clear hown hps
    have HIA : Hid (Calls Tryz.prog 18 #[v] w1 fun e w' => InsAs (insG false ps) e ∧ Below w1.heap.size w1 w') := ins_any ps v w1 HPB.out.2 HPB.out.1 HV.out HCP.out (HFT.out.below HB1.out) (HNT.out.below HB1.out) (spTab_below HST.out HB1.out)
    go_wp2_with fail
    refine HIA.out.mono ?_
    rintro e w2 ⟨hins, hb2⟩
    have HB2 : Hid (Below w.heap.size w w2) := HB1.out.trans (hb2.mono HB1.out.size)
    have HS2 := Lib.hid (SixG.on HS1.out hb2)
    have HWL : Hid (w.heap.size < w2.heap.size) := (Array.getElem?_eq_some_iff.1 HS2.out).1
    clear hb2 HB1 HS1 HIA
    rcases hins with ⟨x, hx, rfl⟩ | ⟨hx, rfl⟩
    · have HBD : Hid (ImmB x) := insG_bd hx
      have HLX : Hid (lineG false l = itG (some x)) := by show lineG false l = _; rw [HLL.out, hx]
      clear hx HLL
      unfold stV
      by_cases hlb : x.2.2.2.2.2.2.1 = []
      · have hbl : bs x.2.2.2.2.2.2.1 = ⟨#[]⟩ := by rw [hlb]; rfl
        have HR : Hid (∀ V, Below w2.heap.size w2 V → Calls Tryz.prog 19 #[.agg #[.int .i64 x.1, .int .i64 x.2.1, .int .i64 x.2.2.1, .int .i64 x.2.2.2.1, .int .u32 x.2.2.2.2.1, .int .i64 x.2.2.2.2.2.1]] V fun e w' => e = .returned (.bool (right6 x)) ∧ Below V.heap.size V w') := fun V hV => iright_any _ _ _ _ _ _ V HBD.out.1 HBD.out.2 ((HFT.out.below HB2.out).below hV)
        cases hr : right6 x
        · rw [hr] at HR
          have HE : Hid (lineG false l = (zero6, 9)) := by
            show lineG false l = _
            rw [HLX.out]; unfold itG
            show (if x.2.2.2.2.2.2.1 ≠ [] then _ else _) = _
            rw [if_neg (fun g => g hlb), if_neg (by rw [hr]; decide)]
          clear hlb HLX
          obtain ⟨s0, s1, s2, s3, s4, s5⟩ := HS2.out.cells
          have sf := HS2.out.free
          have n1 := HWL.out
          go_wp2_with fail
          refine (HR.out _ (by exact (Below.refl _ _).alloc (Nat.le_refl _) _)).mono ?_
          rintro e w3 ⟨rfl, hb3⟩
          have HB23 : Hid (Below w2.heap.size w2 w3) := ((Below.refl _ w2).alloc (Nat.le_refl _) _).trans (hb3.mono (by simp))
          have HB3 : Hid (Below w.heap.size w w3) := HB2.out.trans (HB23.out.mono HB2.out.size)
          have HS3 := Lib.hid (SixG.on HS2.out HB23.out)
          clear hb3 s0 s1 s2 s3 s4 s5 sf
          obtain ⟨s0, s1, s2, s3, s4, s5⟩ := HS3.out.cells
          have sf := HS3.out.free
          go_wp2
          obtain ⟨V, hV, hTV, hOV⟩ := HS3.out.put 0 0 0 0 0 0
          rw [hV]
          have HBV : Hid (Below w.heap.size w V) := HB3.out.trans (hOV.below (Nat.le_refl _))
          clear s0 s1 s2 s3 s4 s5 sf
          obtain ⟨s0, s1, s2, s3, s4, s5⟩ := hTV.cells
          rw [HE.out]
          refine bodyPost_ret (v := .tuple #[six6 zero6, .int .i64 9]) (by simp [results, Tryz.results7, go_sem, six6, zero6, *]) rfl ⟨rfl, HBV.out⟩
        · rw [hr] at HR
          have HE : Hid (lineG false l = (ins6 x, 0)) := by
            show lineG false l = _
            rw [HLX.out]; unfold itG
            show (if x.2.2.2.2.2.2.1 ≠ [] then _ else _) = _
            rw [if_neg (fun g => g hlb), if_pos hr]
          clear hlb HLX
          obtain ⟨s0, s1, s2, s3, s4, s5⟩ := HS2.out.cells
          have sf := HS2.out.free
          have n1 := HWL.out
          go_wp2_with fail
          have HT2 := Lib.hid (show StB (w2.alloc (.cells #[.int .i64 2, .int .i64 0, .int .u32 0, .int .i64 x.1, .int .i64 x.2.1, .int .i64 x.2.2.1, .int .i64 x.2.2.2.1, .int .u32 x.2.2.2.2.1, .int .i64 x.2.2.2.2.2.1, .string ⟨#[]⟩] 55)) w2.heap.size 2 0 0 (x.1, x.2.1, x.2.2.1, x.2.2.2.1, x.2.2.2.2.1, x.2.2.2.2.2.1, [], 0, false) from heap_alloc_new w2 _)
          refine (HR.out _ (by exact (Below.refl _ _).alloc (Nat.le_refl _) _)).mono ?_
          rintro e w3 ⟨rfl, hb3⟩
          have HT3 := Lib.hid (StB.on HT2.out hb3)
          have HB23 : Hid (Below w2.heap.size w2 w3) := ((Below.refl _ w2).alloc (Nat.le_refl _) _).trans (hb3.mono (by simp))
          have HB3 : Hid (Below w.heap.size w w3) := HB2.out.trans (HB23.out.mono HB2.out.size)
          have HS3 := Lib.hid (SixG.on HS2.out HB23.out)
          clear hb3 s0 s1 s2 s3 s4 s5 sf HT2
          obtain ⟨s0, s1, s2, s3, s4, s5⟩ := HS3.out.cells
          have sf := HS3.out.free
          obtain ⟨t0, t1, t2, t3, t4, t5, t6, t7, t8, t9⟩ := HT3.out.cells
          dsimp only at t3 t4 t5 t6 t7 t8 t9
          go_wp2
          obtain ⟨V, hV, hTV, hOV⟩ := HS3.out.put x.1 x.2.1 x.2.2.1 x.2.2.2.1 x.2.2.2.2.1 x.2.2.2.2.2.1
          rw [hV]
          have HBV : Hid (Below w.heap.size w V) := HB3.out.trans (hOV.below (Nat.le_refl _))
          clear s0 s1 s2 s3 s4 s5 sf t0 t1 t2 t3 t4 t5 t6 t7 t8 t9
          obtain ⟨s0, s1, s2, s3, s4, s5⟩ := hTV.cells
          rw [HE.out]
          refine bodyPost_ret (v := .tuple #[six6 (ins6 x), .int .i64 0]) (by simp [results, Tryz.results7, go_sem, six6, ins6, *]) rfl ⟨rfl, HBV.out⟩
      · have hn1 := bs_ne hlb
        have hn2 := bs_ne' hlb
        have HE : Hid (lineG false l = (zero6, 1)) := by
          show lineG false l = _
          rw [HLX.out]; unfold itG
          show (if x.2.2.2.2.2.2.1 ≠ [] then _ else _) = _
          rw [if_pos hlb]
        clear hlb HLX
        obtain ⟨s0, s1, s2, s3, s4, s5⟩ := HS2.out.cells
        have sf := HS2.out.free
        have n1 := HWL.out
        go_wp2
        obtain ⟨V, hV, hTV, hOV⟩ := HS2.out.put 0 0 0 0 0 0
        rw [hV]
        have HBV : Hid (Below w.heap.size w V) := HB2.out.trans (hOV.below (Nat.le_refl _))
        clear s0 s1 s2 s3 s4 s5 sf
        have hA : ∀ o, SixG (V.alloc o) w.heap.size 0 0 0 0 0 0 := fun o => SixG.on hTV ((Below.refl _ _).alloc (Nat.le_refl _) o)
        have s0 := fun o => (hA o).cells.1
        have s1 := fun o => (hA o).cells.2.1
        have s2 := fun o => (hA o).cells.2.2.1
        have s3 := fun o => (hA o).cells.2.2.2.1
        have s4 := fun o => (hA o).cells.2.2.2.2.1
        have s5 := fun o => (hA o).cells.2.2.2.2.2
        clear hA
        rw [HE.out]
        refine bodyPost_ret (v := .tuple #[six6 zero6, .int .i64 1]) (by simp [results, Tryz.results7, go_sem, six6, zero6, *]) rfl ⟨rfl, ?_⟩
        exact HBV.out.alloc HBV.out.size _
    · have HE : Hid (lineG false l = (zero6, 1)) := by
        show lineG false l = _
        rw [HLL.out, hx]; rfl
      clear hx HLL
      unfold stV it0
      obtain ⟨s0, s1, s2, s3, s4, s5⟩ := HS2.out.cells
      have sf := HS2.out.free
      have n1 := HWL.out
      go_wp2
      obtain ⟨V, hV, hTV, hOV⟩ := HS2.out.put 0 0 0 0 0 0
      rw [hV]
      have HBV : Hid (Below w.heap.size w V) := HB2.out.trans (hOV.below (Nat.le_refl _))
      clear s0 s1 s2 s3 s4 s5 sf
      have hA : ∀ o, SixG (V.alloc o) w.heap.size 0 0 0 0 0 0 := fun o => SixG.on hTV ((Below.refl _ _).alloc (Nat.le_refl _) o)
      have s0 := fun o => (hA o).cells.1
      have s1 := fun o => (hA o).cells.2.1
      have s2 := fun o => (hA o).cells.2.2.1
      have s3 := fun o => (hA o).cells.2.2.2.1
      have s4 := fun o => (hA o).cells.2.2.2.2.1
      have s5 := fun o => (hA o).cells.2.2.2.2.2
      clear hA
      rw [HE.out]
      refine bodyPost_ret (v := .tuple #[six6 zero6, .int .i64 1]) (by simp [results, Tryz.results7, go_sem, six6, zero6, *]) rfl ⟨rfl, ?_⟩
      exact HBV.out.alloc HBV.out.size _
  · have HE : Hid (lineG false l = (zero6, 1)) := by
      show lineG false l = _
      unfold lineG; rw [hps]
    clear hps
    obtain ⟨s0, s1, s2, s3, s4, s5⟩ := HS1.out.cells
    have sf := HS1.out.free
    go_wp2
    obtain ⟨V, hV, hTV, hOV⟩ := HS1.out.put 0 0 0 0 0 0
    rw [hV]
    have HBV : Hid (Below w.heap.size w V) := HB1.out.trans (hOV.below (Nat.le_refl _))
    clear s0 s1 s2 s3 s4 s5 sf
    obtain ⟨s0, s1, s2, s3, s4, s5⟩ := hTV.cells
    rw [HE.out]
    refine bodyPost_ret (v := .tuple #[six6 zero6, .int .i64 1]) (by simp [results, Tryz.results7, go_sem, six6, zero6, *]) rfl ⟨rfl, HBV.out⟩
end Go.Proofs.YthgolbmngjdbeaaGreatDoor

/- Layer 6, the program's own cutLabel, behindLabel, address. -/
namespace Go.Proofs.YthgolbmngjdbeaaGreatDoor
open Go.RowKit
set_option linter.unusedVariables false
set_option linter.unusedSimpArgs false

/-- Does a line begin with a label? -/
abbrev isLab (ps : List (List UInt8)) : Prop := 2 ≤ ps.length ∧ nameB (ps.getD 0 []) = true ∧ ps.getD 1 [] = [58]
def labG (ps : List (List UInt8)) : List UInt8 := if isLab ps then ps.getD 0 [] else []
def restG (ps : List (List UInt8)) : List (List UInt8) := if isLab ps then ps.drop 2 else ps
def CapOk (v : Value) : Prop := ∀ a n c, v = .slice a n c → n ≤ c

set_option maxRecDepth 100000 in
set_option maxHeartbeats 1000000 in
theorem cutlab_any (ps : List (List UInt8)) (v : Value) (w : World) (hl : ∀ p ∈ ps, p.length ≤ 70000) (hn : ps.length ≤ 200000) (h : IsStrs w v ps) (hcap : CapOk v) :
    Calls Tryz.prog 21 #[v] w fun e w' => ∃ v', e = .returned (.tuple #[.string (bs (labG ps)), v']) ∧ IsStrs w v' (restG ps) ∧ CapOk v' ∧ Q w w' := by
  by_cases h2 : 2 ≤ ps.length
  · obtain ⟨g, o, c, rfl, hg, hc⟩ := h.all (by omega)
    have c0 := hc 0 (by omega)
    have c1 := hc 1 (by omega)
    rw [Nat.add_zero] at c0
    have hcc : ps.length ≤ c := hcap _ _ _ rfl
    have hl0 : (ps.getD 0 []).length ≤ 70000 := hl _ (by rw [List.getD_eq_getElem?_getD, List.getElem?_eq_getElem (by omega)]; exact List.getElem_mem _)
    have HNM : Hid (∀ w, Calls Tryz.prog 51 #[.string (bs (ps.getD 0 []))] w fun e w' => e = .returned (.bool (nameB (ps.getD 0 []))) ∧ w' = w) := fun w => isName_any _ w hl0
    have HV := Lib.hid h
    have HCP := Lib.hid hcap
    have h2' : (2 : Int) ≤ (ps.length : Int) := by omega
    by_cases hlb : isLab ps
    · have HLG : Hid (labG ps = ps.getD 0 []) := if_pos hlb
      have HRG : Hid (restG ps = ps.drop 2) := if_pos hlb
      obtain ⟨_, hnm, hp1⟩ := hlb
      rw [hnm] at HNM
      rw [hp1] at c1
      have e58 : bs [58] = ⟨#[58]⟩ := rfl
      rw [e58] at c1
      obtain ⟨o', hif, HC⟩ : ∃ o', (if c = 2 then some (⟨g, o, none⟩ : Addr) else some ⟨g, o + 2, none⟩) = some ⟨g, o', none⟩ ∧ Hid (∀ c', IsStrs w (.slice (some ⟨g, o', none⟩) (ps.length - 2) c') (ps.drop 2)) := by
        by_cases q : c = 2
        · exact ⟨o, if_pos q, fun c' => ⟨_, _, by rw [List.length_drop], .inl (by simp; omega)⟩⟩
        · refine ⟨o + 2, if_neg q, fun c' => ⟨_, _, by rw [List.length_drop], .inr ⟨g, o + 2, rfl, fun i hi => ?_⟩⟩⟩
          have hi' : i + 2 < ps.length := by simp at hi; omega
          have := hc (i + 2) hi'
          rw [show o + 2 + i = o + (i + 2) from by omega, this]
          simp [List.getD, Nat.add_comm]
      have HCC : Hid (ps.length - 2 ≤ c - 2) := by show _ ≤ _; omega
      clear hc hl hcap h hl0
      generalize ps.getD 0 [] = p0 at *
      generalize ps.getD 1 [] = p1 at *
      go_enter Tryz.func21, Tryz.ntmps21
      go_wp2_with (first | (go_at_call 51; refine (HNM.out _).mono ?_; rintro e w' ⟨rfl, hw⟩; have hw := hw.symm; subst hw))
      go_quiet (fail)
      go_wp2
      go_ret2
      rw [HLG.out, HRG.out]
      exact ⟨_, rfl, HC.out _, (fun a n c' e => by simp only [Value.slice.injEq] at e; obtain ⟨_, e1, e2⟩ := e; have := HCC.out; omega), _, rfl⟩
    · have HLG : Hid (labG ps = []) := if_neg hlb
      have HRG : Hid (restG ps = ps) := if_neg hlb
      cases hnm : nameB (ps.getD 0 [])
      · rw [hnm] at HNM
        clear hc hl hcap h hl0 hlb
        generalize ps.getD 0 [] = p0 at *
        generalize ps.getD 1 [] = p1 at *
        go_enter Tryz.func21, Tryz.ntmps21
        go_wp2_with (first | (go_at_call 51; refine (HNM.out _).mono ?_; rintro e w' ⟨rfl, hw⟩; have hw := hw.symm; subst hw))
        go_ret2
        rw [HLG.out, HRG.out]
        exact ⟨_, rfl, HV.out, HCP.out, Q.refl _⟩
      · rw [hnm] at HNM
        have hne : ps.getD 1 [] ≠ [58] := fun e => hlb ⟨h2, hnm, e⟩
        have e3 : ((bs (ps.getD 1 [])).toList == (bs [58]).toList) = false := bs_neq hne
        have e3' : ((bs (ps.getD 1 [])).toList == [58]) = false := by rw [show (bs [58]).toList = [58] from by simp [bs, ByteArray.toList_eq]] at e3; exact e3
        clear hc hl hcap h hl0 hlb hne
        generalize ps.getD 0 [] = p0 at *
        generalize ps.getD 1 [] = p1 at *
        go_enter Tryz.func21, Tryz.ntmps21
        go_wp2_with (first | (go_at_call 51; refine (HNM.out _).mono ?_; rintro e w' ⟨rfl, hw⟩; have hw := hw.symm; subst hw))
        go_ret2
        rw [HLG.out, HRG.out]
        exact ⟨_, rfl, HV.out, HCP.out, Q.refl _⟩
  · have HLG : Hid (labG ps = []) := if_neg (fun q => h2 q.1)
    have HRG : Hid (restG ps = ps) := if_neg (fun q => h2 q.1)
    have HV := Lib.hid h
    have HCP := Lib.hid hcap
    obtain ⟨a, c, rfl, _⟩ := h
    have h2' : ¬ (2 : Int) ≤ (ps.length : Int) := by omega
    clear hl hcap
    go_enter Tryz.func21, Tryz.ntmps21
    go_wp2
    go_ret2
    rw [HLG.out, HRG.out]
    exact ⟨_, rfl, HV.out, HCP.out, Q.refl _⟩

/-- What pieces are, as the program reads them. -/
def readG (ill : Bool) (ps : List (List UInt8)) : Option It :=
  if ps.length = 2 ∧ ps.getD 0 [] = kWord then (numW (ps.getD 1 [])).map fun n => (0, 0, 0, 0, 0, 0, [], n, true) else insG ill ps
/-- A statement, with its line. -/
def stI (ln : Int) (x : It) : Value := if x.2.2.2.2.2.2.2.2 = true then stV 1 ln x.2.2.2.2.2.2.2.1 it0 else stV 2 ln 0 x
def BlAs (ps : List (List UInt8)) (e : Ending) : Prop :=
  (ps = [] ∧ e = .returned (.tuple #[stV 0 0 0 it0, .int .i64 0])) ∨
  (ps ≠ [] ∧ ∃ x, readG false ps = some x ∧ ((x.2.2.2.2.2.2.2.2 = true ∧ e = .returned (.tuple #[stV 1 0 x.2.2.2.2.2.2.2.1 it0, .int .i64 0])) ∨ (x.2.2.2.2.2.2.2.2 = false ∧ e = .returned (.tuple #[stV 2 0 0 x, .int .i64 0])))) ∨
  (ps ≠ [] ∧ readG false ps = none ∧ ∃ kd pl, e = .returned (.tuple #[stV kd 0 pl it0, .int .i64 1]))
theorem takeL_raw {x y : It} {what s : List UInt8} (hx : x.2.2.2.2.2.2.2.2 = false) (h : takeL x what s = some y) : y.2.2.2.2.2.2.2.2 = false := by
  unfold takeL at h
  repeat' split at h
  all_goals first
    | (cases h; done)
    | (simp only [Option.some.injEq] at h; subst h; exact hx)
    | (obtain ⟨n, _, rfl⟩ := Option.map_eq_some_iff.1 h; exact hx)
theorem takesL_raw : ∀ {ws ps : List (List UInt8)} {x y : It}, x.2.2.2.2.2.2.2.2 = false → takesL x ws ps = some y → y.2.2.2.2.2.2.2.2 = false
  | [], ps, x, y, hx, h => by
    rw [takesL_nil] at h; cases h; exact hx
  | w :: ws, [], x, y, hx, h => by
    simp only [takesL, Option.some.injEq] at h; subst h; exact hx
  | w :: ws, p :: ps, x, y, hx, h => by
    rw [takesL] at h
    obtain ⟨z, hz, h⟩ := Option.bind_eq_some_iff.1 h
    exact takesL_raw (takeL_raw hx hz) h
theorem insG_raw {ill : Bool} {ps : List (List UInt8)} {x : It} (h : insG ill ps = some x) : x.2.2.2.2.2.2.2.2 = false := by
  unfold insG at h
  split at h
  · cases h
  split at h
  · cases h
  split at h
  · cases h
  exact takesL_raw (x := itOp _) rfl h

set_option maxRecDepth 100000 in
set_option maxHeartbeats 1000000 in
theorem behind_any (ps : List (List UInt8)) (v : Value) (w : World) (hn : ps.length ≤ 200000) (hl : ∀ p ∈ ps, p.length ≤ 70000) (h : IsStrs w v ps) (hcap : CapOk v) (hF : FormTab w) (hN : NameTab w) (hS : SpTab w) :
    Calls Tryz.prog 22 #[v] w fun e w' => BlAs ps e ∧ Below w.heap.size w w' := by
  by_cases hz : ps = []
  · subst hz
    obtain ⟨a, c, rfl, _⟩ := h
    clear hF hN hS hcap hl
    simp only [List.length_nil]
    go_enter Tryz.func22, Tryz.ntmps22
    go_wp2
    refine bodyPost_ret (v := .tuple #[stV 0 0 0 it0, .int .i64 0]) (by simp [results, Tryz.results22, go_sem, stV, it0]; rfl) rfl ⟨.inl ⟨rfl, rfl⟩, ?_⟩
    exact (Below.refl _ _).alloc (Nat.le_refl _) _
  · have hp : 0 < ps.length := List.length_pos_iff.2 hz
    obtain ⟨g, o, c, hv, hg, hc⟩ := h.all hp
    have c0 := hc 0 hp
    rw [Nat.add_zero] at c0
    have h0' : ((ps.length : Int) == 0) = false := by rw [beq_eq_false_iff_ne]; omega
    have hg' : g ≠ w.heap.size := by omega
    have HNZ := Lib.hid hz
    have hB : Below w.heap.size w (w.alloc (.cells #[.int .i64 0, .int .i64 0, .int .u32 0, .int .i64 0, .int .i64 0, .int .i64 0, .int .i64 0, .int .u32 0, .int .i64 0, .string ⟨#[]⟩] 55)) := (Below.refl _ _).alloc (Nat.le_refl _) _
    have HB := Lib.hid hB
    have HT := Lib.hid (stB_new w 0 0 0 0)
    by_cases hw : ps.length = 2 ∧ ps.getD 0 [] = kWord
    · have c1 := hc 1 (by omega)
      have HRW : Hid (readG false ps = (numW (ps.getD 1 [])).map fun n => (0, 0, 0, 0, 0, 0, [], n, true)) := if_pos hw
      have hl1 : (ps.getD 1 []).length ≤ 70000 := hl _ (by rw [List.getD_eq_getElem?_getD, List.getElem?_eq_getElem (by omega)]; exact List.getElem_mem _)
      have HNU : Hid (∀ w, Calls Tryz.prog 52 #[.string (bs (ps.getD 1 []))] w fun e w' => e = .returned (.tuple #[.int .u32 ((numW (ps.getD 1 [])).getD 0), .int .i64 (eO (numW (ps.getD 1 [])))]) ∧ w' = w) := fun w => num6_any _ w hl1
      rw [hw.2] at c0
      have hkw : bs kWord = ⟨#[46, 119, 111, 114, 100]⟩ := rfl
      rw [hkw] at c0
      have h2 := hw.1
      subst hv
      rw [h2] at h0' ⊢
      clear h hc hF hN hS hcap hl hw hz hB hl1 hn hp
      generalize ps.getD 1 [] = q at *
      go_enter Tryz.func22, Tryz.ntmps22
      go_wp2_with (first | (go_at_call 52; refine (HNU.out _).mono ?_; rintro e w' ⟨rfl, hw⟩; have hw := hw.symm; subst hw))
      refine bodyPost_ret (v := .tuple #[stV 1 0 ((numW q).getD 0) it0, .int .i64 (eO (numW q))]) (by simp [results, Tryz.results22, go_sem, stV, it0]; rfl) rfl ⟨?_, (Below.refl _ _).alloc (Nat.le_refl _) _⟩
      cases hq : numW q with
      | none => exact .inr (.inr ⟨HNZ.out, by rw [HRW.out, hq]; rfl, 1, 0, rfl⟩)
      | some n => exact .inr (.inl ⟨HNZ.out, _, by rw [HRW.out, hq]; rfl, .inl ⟨rfl, rfl⟩⟩)
    · have HRW : Hid (readG false ps = insG false ps) := if_neg hw
      have HIA : Hid (∀ V, Below w.heap.size w V → Calls Tryz.prog 18 #[v] V fun e w' => InsAs (insG false ps) e ∧ Below V.heap.size V w') := fun V hV => ins_any ps v V hn hl (h.on hV) hcap (hF.below hV) (hN.below hV) (spTab_below hS hV)
      subst hv
      have hcase : ((ps.length : Int) == 2) = false ∨ (((ps.length : Int) == 2) = true ∧ ((bs (ps.getD 0 [])).toList == [46, 119, 111, 114, 100]) = false ∧ ((bs (ps.getD 0 [])).toList == ByteArray.toList ⟨#[46, 119, 111, 114, 100]⟩) = false) := by
        by_cases q : ps.length = 2
        · have hne : ((bs (ps.getD 0 [])).toList == (bs kWord).toList) = false := bs_neq (fun e => hw ⟨q, e⟩)
          exact .inr ⟨by rw [q]; rfl, by rw [show (bs kWord).toList = [46, 119, 111, 114, 100] from by simp [bs, kWord, ByteArray.toList_eq]] at hne; exact hne, hne⟩
        · exact .inl (by rw [beq_eq_false_iff_ne]; omega)
      clear h hc hF hN hS hcap hl hw hz hB
      generalize ps.getD 0 [] = p0 at *
      rcases hcase with e2 | ⟨e2, e3, e3'⟩
      all_goals
        go_enter Tryz.func22, Tryz.ntmps22
        go_wp2_with fail
        refine (HIA.out _ HB.out).mono ?_
        rintro e w2 ⟨hins, hb2⟩
        have HB2 : Hid (Below w.heap.size w w2) := HB.out.trans (hb2.mono HB.out.size)
        have HT2 := Lib.hid (StB.on HT.out hb2)
        clear hb2
        rcases hins with ⟨x, hx, rfl⟩ | ⟨hx, rfl⟩
        · have HX := Lib.hid hx
          clear hx
          unfold stV
          obtain ⟨t0, t1, t2, t3, t4, t5, t6, t7, t8, t9⟩ := HT2.out.cells
          have tf := HT2.out.free
          go_wp2
          obtain ⟨V, hV, hTV, hOV⟩ := HT2.out.put 2 0 0 x.1 x.2.1 x.2.2.1 x.2.2.2.1 x.2.2.2.2.1 x.2.2.2.2.2.1 x.2.2.2.2.2.2.1
          rw [hV]
          have HBV : Hid (Below w.heap.size w V) := below_only HB2.out hOV (Nat.le_refl _)
          clear t0 t1 t2 t3 t4 t5 t6 t7 t8 t9 tf
          obtain ⟨t0, t1, t2, t3, t4, t5, t6, t7, t8, t9⟩ := hTV.cells
          refine bodyPost_ret (v := .tuple #[stV 2 0 0 x, .int .i64 0]) (by simp [results, Tryz.results22, go_sem, stV, *]) rfl ⟨.inr (.inl ⟨HNZ.out, x, by rw [HRW.out, HX.out], .inr ⟨insG_raw HX.out, rfl⟩⟩), HBV.out⟩
        · have HX := Lib.hid hx
          clear hx
          unfold stV it0
          obtain ⟨t0, t1, t2, t3, t4, t5, t6, t7, t8, t9⟩ := HT2.out.cells
          have tf := HT2.out.free
          go_wp2
          obtain ⟨V, hV, hTV, hOV⟩ := HT2.out.put 0 0 0 0 0 0 0 0 0 []
          rw [hV]
          have HBV : Hid (Below w.heap.size w V) := below_only HB2.out hOV (Nat.le_refl _)
          clear t0 t1 t2 t3 t4 t5 t6 t7 t8 t9 tf
          obtain ⟨t0, t1, t2, t3, t4, t5, t6, t7, t8, t9⟩ := hTV.cells
          refine bodyPost_ret (v := .tuple #[stV 0 0 0 it0, .int .i64 1]) (by simp [results, Tryz.results22, go_sem, stV, it0, *]) rfl ⟨.inr (.inr ⟨HNZ.out, by rw [HRW.out, HX.out], 0, 0, rfl⟩), HBV.out⟩

set_option maxHeartbeats 400000 in
theorem addr_any (k : Nat) (w : World) (hk : k ≤ 100000) :
    Calls Tryz.prog 23 #[.int .i64 k] w fun e w' => e = .returned (.int .u32 (4 * (k : Int))) ∧ w' = w := by
  go_enter Tryz.func23, Tryz.ntmps23
  go_wp2
  go_ret
  refine ⟨ret_int ?_, rfl⟩
  first | omega | (simp; omega) | (rw [IntKind.wrap_u32]; omega)
end Go.Proofs.YthgolbmngjdbeaaGreatDoor

/- Layer 3: what field, signFrom, isShift, maskOf answer; the mask by a word's kind. -/
namespace Go.Proofs.YthgolbmngjdbeaaGreatDoor
open Go.RowKit
set_option linter.unusedVariables false

theorem nat_field (X a L W : Nat) (h : a + L + W = 32) : X * 2 ^ a % 4294967296 / 2 ^ (a + L) = X / 2 ^ L % 2 ^ W := by
  have e : 4294967296 = 2 ^ a * (2 ^ L * 2 ^ W) := by
    rw [← Nat.pow_add, ← Nat.pow_add, show a + (L + W) = 32 from by omega]
  rw [e, Nat.mul_comm X, Nat.mul_mod_mul_left, Nat.pow_add, Nat.mul_div_mul_left _ _ (Nat.pow_pos (by omega)), Nat.mod_mul_right_div_self]

theorem field_val (x h l : Int) (h0 : 0 ≤ x) (h1 : 0 ≤ l) (h2 : l ≤ h) (h3 : h ≤ 31) : x * 2 ^ (31 - h).toNat % 4294967296 / 2 ^ (31 - h + l).toNat = bitsOf x l (h - l + 1) := by
  obtain ⟨X, rfl⟩ := Int.eq_ofNat_of_zero_le h0
  have e := nat_field X (31 - h).toNat l.toNat (h - l + 1).toNat (by omega)
  rw [show (31 - h + l).toNat = (31 - h).toNat + l.toNat from by omega]
  unfold bitsOf pw
  have := congrArg (Nat.cast (R := Int)) e
  simpa using this

/-- The bits from 31 down to l, as a signed number, as a word. -/
def sgnOf (x l : Int) : Int := signedOf x / 2 ^ l.toNat % 4294967296

def shiftB (f : Int) : Bool := decide (f = 1 ∨ f = 5)

/-- The mask, by kind and funct3. -/
def maskF (k f : Int) : Int :=
  if k = 115 ∧ f = 0 then 4294967295
  else if k = 51 ∨ (k = 19 ∧ (f = 1 ∨ f = 5)) then 4261441663
  else if k ≠ 55 ∧ k ≠ 23 ∧ k ≠ 111 then 28799 else 127

theorem bo_12_3 (w : Int) : bitsOf w 12 3 = w / 4096 % 8 := rfl

end Go.Proofs.YthgolbmngjdbeaaGreatDoor

/- Layer 3: the table of matches; what opOf and Legal answer of any word. -/
namespace Go.Proofs.YthgolbmngjdbeaaGreatDoor
open Go.RowKit
set_option linter.unusedVariables false

def matchT : List Int := 0 :: matchL
def matchZ (k : Nat) : Int := matchT.getD k 0

theorem maskF_cases (k f : Int) : (maskF k f = 4294967295 ∧ k = 115 ∧ f = 0) ∨ (maskF k f = 4261441663 ∧ (k = 51 ∨ (k = 19 ∧ (f = 1 ∨ f = 5)))) ∨ (maskF k f = 28799 ∧ k ≠ 55 ∧ k ≠ 23 ∧ k ≠ 111) ∨ (maskF k f = 127 ∧ (k = 55 ∨ k = 23 ∨ k = 111)) := by
  unfold maskF
  split
  · exact .inl ⟨rfl, by assumption⟩
  · split
    · exact .inr (.inl ⟨rfl, by assumption⟩)
    · split
      · exact .inr (.inr (.inl ⟨rfl, by assumption⟩))
      · exact .inr (.inr (.inr ⟨rfl, by omega⟩))
theorem maskF_low (k f : Int) (h : k = 55 ∨ k = 23 ∨ k = 111) : maskF k f = 127 := by
  rcases h with rfl | rfl | rfl <;> simp [maskF]

theorem maskL_of : ∀ j, j < 57 → maskF (matchL.getD j 0 % 128) (matchL.getD j 0 / 4096 % 8) = maskL.getD j 0 := by decide +kernel
theorem maskL_vals : ∀ j, j < 57 → maskL.getD j 0 = 127 ∨ maskL.getD j 0 = 28799 ∨ maskL.getD j 0 = 4261441663 ∨ maskL.getD j 0 = 4294967295 := by decide +kernel
theorem maskL_low : ∀ j, j < 57 → maskL.getD j 0 = 127 → matchL.getD j 0 % 128 = 55 ∨ matchL.getD j 0 % 128 = 23 ∨ matchL.getD j 0 % 128 = 111 := by decide +kernel

/-- What a hit says of kind and funct3. -/
theorem and_parts (w m v : Int) (h0 : 0 ≤ w) (h1 : w < 4294967296) (hm : m = 127 ∨ m = 28799 ∨ m = 4261441663 ∨ m = 4294967295) (h : bits .and .u32 w m = v) :
    w % 128 = v % 128 ∧ (m ≠ 127 → w / 4096 % 8 = v / 4096 % 8) := by
  rcases hm with rfl | rfl | rfl | rfl
  · rw [u32_and7 w h0 h1] at h; omega
  · rw [u32_and707f w h0 h1] at h; omega
  · rw [u32_andfe w h0 h1] at h; omega
  · rw [u32_andff w h0 h1] at h; omega

theorem maskF_vals (k f : Int) : maskF k f = 127 ∨ maskF k f = 28799 ∨ maskF k f = 4261441663 ∨ maskF k f = 4294967295 := by
  have := maskF_cases k f; omega

theorem held_hit (w : Int) (h0 : 0 ≤ w) (h1 : w < 4294967296) (j : Nat) (hj : j < 57) (h : matchL.getD j 0 = bits .and .u32 w (maskF (w % 128) (w / 4096 % 8))) : kindOf w = j + 1 := by
  obtain ⟨p1, p2⟩ := and_parts w _ _ h0 h1 (maskF_vals _ _) h.symm
  have e : maskF (w % 128) (w / 4096 % 8) = maskL.getD j 0 := by
    by_cases c : maskF (w % 128) (w / 4096 % 8) = 127
    · rcases maskF_cases (w % 128) (w / 4096 % 8) with ⟨d, _⟩ | ⟨d, _⟩ | ⟨d, _⟩ | ⟨_, d⟩
      · omega
      · omega
      · omega
      · rw [c, ← maskL_of j hj, maskF_low _ _ (by omega)]
    · rw [← maskL_of j hj, p1, p2 c]
  rw [e] at h
  exact kind_of_hit w h0 h1 j hj h.symm

theorem hit_held (w : Int) (h0 : 0 ≤ w) (h1 : w < 4294967296) (hk : kindOf w ≠ 0) : matchL.getD (kindOf w - 1) 0 = bits .and .u32 w (maskF (w % 128) (w / 4096 % 8)) := by
  have hit := kind_hit w h0 h1 hk
  have hlt := kind_lt w
  obtain ⟨j, hj⟩ : ∃ j, kindOf w = j + 1 := ⟨kindOf w - 1, by omega⟩
  have hj57 : j < 57 := by omega
  rw [hj, Nat.add_sub_cancel] at hit ⊢
  obtain ⟨p1, p2⟩ := and_parts w _ _ h0 h1 (maskL_vals j hj57) hit
  have e : maskF (w % 128) (w / 4096 % 8) = maskL.getD j 0 := by
    by_cases c : maskL.getD j 0 = 127
    · have := maskL_low j hj57 c
      rw [c, maskF_low _ _ (by omega)]
    · rw [← maskL_of j hj57, p1, p2 c]
  rw [e]; exact hit.symm

theorem match_yes (w : Int) (h0 : 0 ≤ w) (h1 : w < 4294967296) (hk : kindOf w ≠ 0) : matchZ (kindOf w) = bits .and .u32 w (maskF (w % 128) (w / 4096 % 8)) := by
  rw [← hit_held w h0 h1 hk]
  obtain ⟨j, hj⟩ : ∃ j, kindOf w = j + 1 := ⟨kindOf w - 1, by omega⟩
  rw [hj]; rfl
theorem match_no (w : Int) (h0 : 0 ≤ w) (h1 : w < 4294967296) (k : Nat) (hk : 1 ≤ k) (hk2 : k < 58) (hne : k ≠ kindOf w) : (matchZ k == bits .and .u32 w (maskF (w % 128) (w / 4096 % 8))) = false := by
  rw [beq_eq_false_iff_ne]
  intro h
  obtain ⟨j, rfl⟩ : ∃ j, k = j + 1 := ⟨k - 1, by omega⟩
  exact hne (held_hit w h0 h1 j (by omega) h).symm

end Go.Proofs.YthgolbmngjdbeaaGreatDoor

/- Layer 4: the table of matches; Match; the closure that puts a field into its place; putImm. -/
namespace Go.Proofs.YthgolbmngjdbeaaGreatDoor
open Go.RowKit
set_option linter.unusedVariables false

def EncTab (w : World) : Prop := ∀ k, k < 58 → w.cell? ⟨5, k, none⟩ = some (.int .u32 (matchZ k))
theorem encTab_of_laid {l : List (String × DataW Unit)} {W : World} (h : laidMetH Tryz.prog l W) (hp : (l.all fun x => x.2.handleName?.isNone) = true) (hm : ("mimesis/encode.matches", Lib.tabData .u32 matchT) ∈ l) : EncTab W := by
  rw [MakeChecks.laidMetH_plain _ _ _ hp] at h
  obtain ⟨ps, hv, _⟩ := h
  obtain ⟨g, t, cs, fuel, p, h1, h2, h3, h4⟩ := laid_mem hv hm
  obtain rfl : t = 123 := by
    obtain rfl := Option.some.inj ((show Tryz.prog.globalNamed "mimesis/encode.matches" = some 5 by kernel_rfl).symm.trans h1)
    exact Option.some.inj (h2.symm.trans (show (Tryz.prog.globals[5]?).map (·.type) = some 123 by kernel_rfl))
  have hcs := Lib.cells_of_tab Tryz.underlying123 Tryz.underlying27 (by kernel_rfl) (by kernel_rfl) h4
  obtain rfl := Option.some.inj ((show Tryz.prog.globalNamed "mimesis/encode.matches" = some 5 by kernel_rfl).symm.trans h1)
  intro k hk
  rw [World.var?_cell h1 h3 k, ← Array.getElem?_toList, hcs]
  have : k < matchT.length := hk
  simp [matchZ, List.getD, this]

theorem EncTab.below {w w' : World} (h : EncTab w) (hb : Below w.heap.size w w') : EncTab w' := fun k hk => by
  rw [hb.cell (p := ⟨5, k, none⟩) (lt_of_cell (h k hk))]; exact h k hk

set_option maxHeartbeats 400000 in
theorem ematch_no (op : Int) (w : World) (h : ¬ (1 ≤ op ∧ op < 58)) :
    Calls Tryz.prog 79 #[.int .i64 op] w fun e w' => e = .returned (.tuple #[.int .u32 0, .int .i64 9]) ∧ w' = w := by
  by_cases h1 : op ≤ 0
  · go_enter Tryz.func79, Tryz.ntmps79
    go_wp2
    go_ret2
    exact ⟨rfl, rfl⟩
  · have h2 : 58 ≤ op := by omega
    go_enter Tryz.func79, Tryz.ntmps79
    go_wp2
    go_ret2
    exact ⟨rfl, rfl⟩

theorem matchZ_L : ∀ k, k < 58 → k ≠ 0 → matchZ k = matchL.getD (k - 1) 0 := by decide +kernel

set_option maxHeartbeats 400000 in
theorem ematch_yes (k : Nat) (m : Int) (hm : matchL.getD (k - 1) 0 = m) (hk : k < 58) (hk0 : k ≠ 0) (w : World) (tm : EncTab w) :
    Calls Tryz.prog 79 #[.int .i64 k] w fun e w' => e = .returned (.tuple #[.int .u32 m, .int .i64 0]) ∧ w' = w := by
  have hc := tm k hk
  rw [matchZ_L k hk hk0, hm] at hc
  have h1 : 1 ≤ (k : Int) := by omega
  have h2 : (k : Int) < 58 := by omega
  go_enter Tryz.func79, Tryz.ntmps79
  go_wp2
  go_ret2
  exact ⟨rfl, rfl⟩

/-- All blocks but one are as they were. -/
def But (B : Nat) (w w' : World) : Prop := Below B w w' ∧ ∀ k, k ≠ B → w'.heap[k]? = w.heap[k]?
theorem But.cell {B : Nat} {w w' : World} (h : But B w w') {b o : Nat} {p : Option Nat} {v : Value} (hb : b ≠ B) (hc : w.cell? ⟨b, o, p⟩ = some v) : w'.cell? ⟨b, o, p⟩ = some v := by
  rw [World.cell?_of_block (w := w) (h.2 b hb)]; exact hc
theorem But.trans {B : Nat} {a b c : World} (h : But B a b) (g : But B b c) : But B a c := ⟨h.1.trans g.1, fun k hk => (g.2 k hk).trans (h.2 k hk)⟩
theorem But.refl (B : Nat) (w : World) : But B w w := ⟨Below.refl _ _, fun _ _ => rfl⟩

/-- Block B is one cell: the word as it is. -/
def One (w : World) (B : Nat) (x : Int) : Prop := w.heap[B]? = some (.cells #[.int .u32 x] 27 (0, 0))

theorem one_but {w : World} {B : Nat} {x y : Int} (h : One w B x) : One (w.setCell ⟨B, 0, none⟩ (.int .u32 y)) B y ∧ But B w (w.setCell ⟨B, 0, none⟩ (.int .u32 y)) :=
  ⟨one_setCell h, Below.setCell (Below.refl _ _) (p := ⟨B, 0, none⟩) (Nat.le_refl B) _, fun k hk => Below.heap_setCell _ _ _ _ hk⟩

theorem one_drew {w v : World} {B : Nat} {y : Int} (h : One w B y ∧ But B v w) : One w.drew B y ∧ But B v w.drew :=
  ⟨h.1, h.2.1.drew, h.2.2⟩

set_option maxHeartbeats 800000 in
theorem clo_any (a b m p n x : Int) (B : Nat) (w : World) (h : One w B x) (hx0 : 0 ≤ x) (hx1 : x < 4294967296) (n0 : 0 ≤ n) (n1 : n < 4294967296) (h0 : 0 ≤ b) (h1 : b ≤ a) (h2 : a ≤ 31) (hm : pw (a - b + 1) = m) (hp : pw b = p) (hz : n % m = 0 ∨ x / p % m = 0) :
    Calls Tryz.prog 80 #[.int .i64 a, .int .i64 b, .int .u32 n, .pointer (some ⟨B, 0, none⟩)] w fun e w' => e = .returned (.tuple #[]) ∧ One w' B (x + n % m * p) ∧ But B w w' ∧ 0 ≤ x + n % m * p ∧ x + n % m * p < 4294967296 := by
  have HB := or_free x n a b m p hx0 hx1 n0 h0 h1 h2 hm hp hz
  have HV : Hid (bits .or .u32 x (n * 2 ^ (31 - a + b).toNat % 4294967296 / 2 ^ (31 - a).toNat) = x + n % m * p) := by
    rw [sh_val n a b m p h0 h1 h2 hm hp]; exact HB.1
  have HC : Hid (0 ≤ x + n % m * p ∧ x + n % m * p < 4294967296) := HB.2
  have HO : Hid (One w B x) := h
  have cW := cell_of_one h
  have fW := free_of_one h
  clear h hz hm hp HB
  go_enter Tryz.func80, Tryz.ntmps80
  go_wp2
  go_region
  all_goals (try go_wp2)
  all_goals go_end0
  all_goals
    rw [HV.out]
    have g := one_drew (one_but (y := x + n % m * p) HO.out)
    exact ⟨rfl, g.1, g.2, HC.out⟩

set_option maxHeartbeats 4000000 in
theorem putImm_any (k : Nat) (f : Int) (hfk : formZ k = f) (hk : k < 58) (rd rs1 rs2 imm csr x : Int) (B : Nat) (w : World) (h : One w B x) (hx0 : 0 ≤ x) (hx1 : x < 4294967296) (i0 : 0 ≤ imm) (i1 : imm < 4294967296) (hF : Free f x) (tf : FormTab w) :
    Calls Tryz.prog 81 #[.func (.func 80) #[] #[.pointer (some ⟨B, 0, none⟩)], .agg #[.int .i64 k, .int .i64 rd, .int .i64 rs1, .int .i64 rs2, .int .u32 imm, .int .i64 csr]] w fun e w' => e = .returned (.tuple #[]) ∧ One w' B (x + immPut f imm) ∧ Below B w w' := by
  have hB : B < w.heap.size := lt_of_block h
  have HN : w.heap.size ≠ B := by omega
  have HO : One (w.alloc (.cells #[.int .i64 k, .int .i64 rd, .int .i64 rs1, .int .i64 rs2, .int .u32 imm, .int .i64 csr] 30)) B x := (Below.heap_alloc _ _ _ hB).trans h
  have HW : Below B w (w.alloc (.cells #[.int .i64 k, .int .i64 rd, .int .i64 rs1, .int .i64 rs2, .int .u32 imm, .int .i64 csr] 30)) := (Below.refl _ _).alloc (by omega) _
  have HF : Hid (FormTab (w.alloc (.cells #[.int .i64 k, .int .i64 rd, .int .i64 rs1, .int .i64 rs2, .int .u32 imm, .int .i64 csr] 30))) := FormTab.below tf ((Below.refl _ _).alloc (Nat.le_refl _) _)
  have c0 : (w.alloc (.cells #[.int .i64 k, .int .i64 rd, .int .i64 rs1, .int .i64 rs2, .int .u32 imm, .int .i64 csr] 30)).cell? ⟨w.heap.size, 0, none⟩ = some (.int .i64 k) := by rw [World.cell?_alloc_at _ _ _ _ rfl]; rfl
  have c4 : (w.alloc (.cells #[.int .i64 k, .int .i64 rd, .int .i64 rs1, .int .i64 rs2, .int .u32 imm, .int .i64 csr] 30)).cell? ⟨w.heap.size, 4, none⟩ = some (.int .u32 imm) := by rw [World.cell?_alloc_at _ _ _ _ rfl]; rfl
  have HO' : Hid (One (w.alloc (.cells #[.int .i64 k, .int .i64 rd, .int .i64 rs1, .int .i64 rs2, .int .u32 imm, .int .i64 csr] 30)) B x) := HO
  clear HO h tf hB
  have hf := formZ_lt k hk
  rw [hfk] at hf
  have HK : Hid (formZ k = f) := hfk
  clear hfk
  go_enter Tryz.func81, Tryz.ntmps81
  go_wp2_with fail
  generalize w.alloc (.cells #[.int .i64 k, .int .i64 rd, .int .i64 rs1, .int .i64 rs2, .int .u32 imm, .int .i64 csr] 30) = W at *
  generalize w.heap.size = G at *
  refine (form_yes k hk _ HF.out).mono ?_
  rintro e w1 ⟨rfl, hw⟩
  subst hw
  rw [HK.out]
  clear HK HF
  obtain ⟨f1, f2, f3, f4, f5⟩ := hF
  rcases form10 hf with rfl | rfl | rfl | rfl | rfl | rfl | rfl | rfl | rfl | rfl
  · clear f1 f2 f3 f4 f5
    go_wp2
    go_end0
    exact ⟨rfl, by simpa [immPut] using HO'.out, HW⟩
  · have q := f1 (.inl rfl)
    clear f1 f2 f3 f4 f5
    go_wp2_with fail
    refine (clo_any 31 12 1048576 4096 _ (x) B _ HO'.out hx0 hx1 ?_ ?_ (by omega) (by omega) (by omega) rfl rfl ?_).mono ?_
    · omega
    · omega
    · omega
    rintro e w2 ⟨rfl, one2, bt2, y2, z2⟩
    have c4 := bt2.cell HN c4
    go_wp2
    go_end0
    refine ⟨rfl, ?_, (HW.trans bt2.1)⟩
    rw [show x + immPut 1 imm = x + imm / 4096 % 1048576 * 4096 from by simp only [immPut]; simp; try omega]
    exact one2
  · have q := f1 (.inr rfl)
    clear f1 f2 f3 f4 f5
    go_wp2_with fail
    refine (clo_any 31 31 2 2147483648 _ (x) B _ HO'.out hx0 hx1 ?_ ?_ (by omega) (by omega) (by omega) rfl rfl ?_).mono ?_
    · omega
    · omega
    · omega
    rintro e w2 ⟨rfl, one2, bt2, y2, z2⟩
    have c4 := bt2.cell HN c4
    go_wp2_with fail
    refine (clo_any 30 21 1024 2097152 _ (x + imm / 1048576 % 2 * 2147483648) B _ one2 y2 z2 ?_ ?_ (by omega) (by omega) (by omega) rfl rfl ?_).mono ?_
    · omega
    · omega
    · omega
    rintro e w3 ⟨rfl, one3, bt3, y3, z3⟩
    have c4 := bt3.cell HN c4
    go_wp2_with fail
    refine (clo_any 20 20 2 1048576 _ (x + imm / 1048576 % 2 * 2147483648 + imm / 2 % 1024 * 2097152) B _ one3 y3 z3 ?_ ?_ (by omega) (by omega) (by omega) rfl rfl ?_).mono ?_
    · omega
    · omega
    · omega
    rintro e w4 ⟨rfl, one4, bt4, y4, z4⟩
    have c4 := bt4.cell HN c4
    go_wp2_with fail
    refine (clo_any 19 12 256 4096 _ (x + imm / 1048576 % 2 * 2147483648 + imm / 2 % 1024 * 2097152 + imm / 2048 % 2 * 1048576) B _ one4 y4 z4 ?_ ?_ (by omega) (by omega) (by omega) rfl rfl ?_).mono ?_
    · omega
    · omega
    · omega
    rintro e w5 ⟨rfl, one5, bt5, y5, z5⟩
    have c4 := bt5.cell HN c4
    go_wp2
    go_end0
    refine ⟨rfl, ?_, ((((HW.trans bt2.1).trans bt3.1).trans bt4.1).trans bt5.1)⟩
    rw [show x + immPut 2 imm = x + imm / 1048576 % 2 * 2147483648 + imm / 2 % 1024 * 2097152 + imm / 2048 % 2 * 1048576 + imm / 4096 % 256 * 4096 from by simp only [immPut]; simp; try omega]
    exact one5
  · have q := f2 rfl
    clear f1 f2 f3 f4 f5
    go_wp2_with fail
    refine (clo_any 31 20 4096 1048576 _ (x) B _ HO'.out hx0 hx1 ?_ ?_ (by omega) (by omega) (by omega) rfl rfl ?_).mono ?_
    · omega
    · omega
    · omega
    rintro e w2 ⟨rfl, one2, bt2, y2, z2⟩
    have c4 := bt2.cell HN c4
    go_wp2
    go_end0
    refine ⟨rfl, ?_, (HW.trans bt2.1)⟩
    rw [show x + immPut 3 imm = x + imm % 4096 * 1048576 from by simp only [immPut]; simp; try omega]
    exact one2
  · have q := f3 (.inl rfl)
    clear f1 f2 f3 f4 f5
    go_wp2_with fail
    refine (clo_any 31 31 2 2147483648 _ (x) B _ HO'.out hx0 hx1 ?_ ?_ (by omega) (by omega) (by omega) rfl rfl ?_).mono ?_
    · omega
    · omega
    · omega
    rintro e w2 ⟨rfl, one2, bt2, y2, z2⟩
    have c4 := bt2.cell HN c4
    go_wp2_with fail
    refine (clo_any 30 25 64 33554432 _ (x + imm / 4096 % 2 * 2147483648) B _ one2 y2 z2 ?_ ?_ (by omega) (by omega) (by omega) rfl rfl ?_).mono ?_
    · omega
    · omega
    · omega
    rintro e w3 ⟨rfl, one3, bt3, y3, z3⟩
    have c4 := bt3.cell HN c4
    go_wp2_with fail
    refine (clo_any 11 8 16 256 _ (x + imm / 4096 % 2 * 2147483648 + imm / 32 % 64 * 33554432) B _ one3 y3 z3 ?_ ?_ (by omega) (by omega) (by omega) rfl rfl ?_).mono ?_
    · omega
    · omega
    · omega
    rintro e w4 ⟨rfl, one4, bt4, y4, z4⟩
    have c4 := bt4.cell HN c4
    go_wp2_with fail
    refine (clo_any 7 7 2 128 _ (x + imm / 4096 % 2 * 2147483648 + imm / 32 % 64 * 33554432 + imm / 2 % 16 * 256) B _ one4 y4 z4 ?_ ?_ (by omega) (by omega) (by omega) rfl rfl ?_).mono ?_
    · omega
    · omega
    · omega
    rintro e w5 ⟨rfl, one5, bt5, y5, z5⟩
    have c4 := bt5.cell HN c4
    go_wp2
    go_end0
    refine ⟨rfl, ?_, ((((HW.trans bt2.1).trans bt3.1).trans bt4.1).trans bt5.1)⟩
    rw [show x + immPut 4 imm = x + imm / 4096 % 2 * 2147483648 + imm / 32 % 64 * 33554432 + imm / 2 % 16 * 256 + imm / 2048 % 2 * 128 from by simp only [immPut]; simp; try omega]
    exact one5
  · have q := f3 (.inr rfl)
    clear f1 f2 f3 f4 f5
    go_wp2_with fail
    refine (clo_any 31 25 128 33554432 _ (x) B _ HO'.out hx0 hx1 ?_ ?_ (by omega) (by omega) (by omega) rfl rfl ?_).mono ?_
    · omega
    · omega
    · omega
    rintro e w2 ⟨rfl, one2, bt2, y2, z2⟩
    have c4 := bt2.cell HN c4
    go_wp2_with fail
    refine (clo_any 11 7 32 128 _ (x + imm / 32 % 128 * 33554432) B _ one2 y2 z2 ?_ ?_ (by omega) (by omega) (by omega) rfl rfl ?_).mono ?_
    · omega
    · omega
    · omega
    rintro e w3 ⟨rfl, one3, bt3, y3, z3⟩
    have c4 := bt3.cell HN c4
    go_wp2
    go_end0
    refine ⟨rfl, ?_, ((HW.trans bt2.1).trans bt3.1)⟩
    rw [show x + immPut 5 imm = x + imm / 32 % 128 * 33554432 + imm % 32 * 128 from by simp only [immPut]; simp; try omega]
    exact one3
  · clear f1 f2 f3 f4 f5
    go_wp2
    go_end0
    exact ⟨rfl, by simpa [immPut] using HO'.out, HW⟩
  · have q := f4 rfl
    clear f1 f2 f3 f4 f5
    go_wp2_with fail
    refine (clo_any 24 20 32 1048576 _ (x) B _ HO'.out hx0 hx1 ?_ ?_ (by omega) (by omega) (by omega) rfl rfl ?_).mono ?_
    · omega
    · omega
    · omega
    rintro e w2 ⟨rfl, one2, bt2, y2, z2⟩
    have c4 := bt2.cell HN c4
    go_wp2
    go_end0
    refine ⟨rfl, ?_, (HW.trans bt2.1)⟩
    rw [show x + immPut 7 imm = x + imm % 32 * 1048576 from by simp only [immPut]; simp; try omega]
    exact one2
  · clear f1 f2 f3 f4 f5
    go_wp2
    go_end0
    exact ⟨rfl, by simpa [immPut] using HO'.out, HW⟩
  · have q := f5 rfl
    clear f1 f2 f3 f4 f5
    go_wp2_with fail
    refine (clo_any 19 15 32 32768 _ (x) B _ HO'.out hx0 hx1 ?_ ?_ (by omega) (by omega) (by omega) rfl rfl ?_).mono ?_
    · omega
    · omega
    · omega
    rintro e w2 ⟨rfl, one2, bt2, y2, z2⟩
    have c4 := bt2.cell HN c4
    go_wp2
    go_end0
    refine ⟨rfl, ?_, (HW.trans bt2.1)⟩
    rw [show x + immPut 9 imm = x + imm % 32 * 32768 from by simp only [immPut]; simp; try omega]
    exact one2
end Go.Proofs.YthgolbmngjdbeaaGreatDoor
