/- Layer 15: the document's own words. Written by gen-imgwords.py. -/
import Derived.Test.YtcigceaadkjenaaDoorImgStr
import Derived.Test.YtcigceaadkjenaaDoorImgMath2
import Derived.Lib.Hide
namespace Go.Proofs.YtcigceaadkjenaaDoor
open Go.RowKit
set_option linter.unusedVariables false
set_option maxRecDepth 100000

def sW (l : List UInt8) : Value := .string (bs l)
theorem sgn_bs (l : List UInt8) (k : Nat) (h : k < l.length) : signAt (bs l) k = ((l.getD k 0).toNat : Int) := by
  unfold signAt
  simp [bs, List.getD, h]
theorem bsn {l : List UInt8} (h : l ≠ []) : ((bs l).toList == ByteArray.toList ⟨#[]⟩) = false := by
  rw [beq_eq_false_iff_ne, Lib.toList_data, Lib.toList_data]
  simpa [bs] using h
theorem bsn2 {l : List UInt8} (h : l ≠ []) : ((bs l).toList == []) = false := by
  rw [beq_eq_false_iff_ne, Lib.toList_data]
  simpa [bs] using h
theorem bsn3 {l : List UInt8} (h : l ≠ []) : ((bs l).toList != ByteArray.toList ⟨#[]⟩) = true := by simp only [bne, bsn h, Bool.not_false]
theorem bsn4 {l : List UInt8} (h : l ≠ []) : ((bs l).toList != []) = true := by simp only [bne, bsn2 h, Bool.not_false]
theorem one_at (w : World) (x : Value) (t : TypeId) : ∀ (j : Nat) (u : Value), [x][j]? = some u → (w.alloc (.cells #[x] t)).cell? ((⟨w.heap.size, 0, none⟩ : Addr).add j) = some u := by
  intro j u hj
  match j, hj with
  | 0, hj => simp at hj; subst hj; simp [Addr.add]
  | j + 1, hj => simp at hj

theorem wds_10 (cur r : List UInt8) (rm : Bool) : wds cur rm (10 :: r) = if cur = [] then wds [] false r else cur :: wds [] false r := by
  rw [wds]; simp
theorem wds_35 (cur r : List UInt8) (rm : Bool) : wds cur rm (35 :: r) = if cur = [] then wds [] true r else cur :: wds [] true r := by
  rw [wds]; simp
theorem wds_32 (cur r : List UInt8) (rm : Bool) : wds cur rm (32 :: r) = if cur = [] then wds [] rm r else cur :: wds [] rm r := by
  rw [wds]; simp
theorem wds_t (cur r : List UInt8) (c : UInt8) (h1 : c ≠ 10) (h2 : c ≠ 35) (h3 : c ≠ 32) : wds cur true (c :: r) = if cur = [] then wds [] true r else cur :: wds [] true r := by
  rw [wds]; simp [h1, h2]
theorem wds_f (cur r : List UInt8) (c : UInt8) (h1 : c ≠ 10) (h2 : c ≠ 35) (h3 : c ≠ 32) : wds cur false (c :: r) = wds (cur ++ [c]) false r := by
  rw [wds]; simp [h1, h2, h3]

set_option maxHeartbeats 4000000 in
theorem rwords_any (l : List UInt8) (w : World) (hl : l.length ≤ 70000) :
    Calls Tryd.prog 37 #[.string (bs l)] w fun e w' => ∃ v, e = .returned v ∧ w'.ownsRow w.heap.size 9 1 v (wordsL l).length ((wordsL l).map sW) ∧ Below w.heap.size w w' := by
  obtain ⟨i0, hi, hz0, hz1, hz2⟩ := info_parts (P := Tryd.prog) (e := 9) (z := .string ⟨#[]⟩) (size := 1) (bytes := 16) (by kernel_rfl)
  have hsz : (bs l).size = l.length := bs_size l
  go_enter Tryd.func37, Tryd.ntmps37
  go_wp2
  go_loopw [3, 4, 5, 6] (fun o u r i wr => ∃ (k : Nat) (ol : List (List UInt8)) (cu : List UInt8) (rm : Bool), k ≤ l.length ∧ i = .int .i64 (k : Int) ∧ u = .string (bs cu) ∧ r = .bool rm ∧ wr.ownsRow w.heap.size 9 1 o ol.length (ol.map sW) ∧ Below w.heap.size w wr ∧ ol.length ≤ k ∧ cu.length ≤ k ∧ Hid (wordsL l = ol ++ wds cu rm (l.drop k))) (fun _ _ _ i _ => l.length - (intOf i).toNat)
  case atStart => exact ⟨0, [], [], false, Nat.zero_le _, rfl, rfl, rfl, World.ownsRow_lit w #[] 0 (Nat.le_refl _) (by decide) rfl, (Below.refl _ _).alloc (Nat.le_refl _) _, Nat.le_refl _, Nat.le_refl _, (wds_words l).symm⟩
  case round =>
    obtain ⟨k, ol, cu, rm, hk, rfl, rfl, rfl, hown, hb, hol, hcul, HP⟩ := hrel
    have HO : Hid (wr.ownsRow w.heap.size 9 1 _ ol.length (ol.map sW)) := hown
    have HB : Hid (Below w.heap.size w wr) := hb
    clear hown hb
    have hcus : (bs cu).size = cu.length := bs_size cu
    by_cases hlt : k < l.length
    · have hsf := sign_form (bs l) k
      obtain ⟨b0, b1⟩ := signAt_bd (bs l) k
      have HC := Lib.hid (sgn_bs l k hlt)
      have HD : Hid (l.drop k = l.getD k 0 :: l.drop (k + 1)) := by
        show _ = _
        rw [List.drop_eq_getElem_cons hlt]
        simp [List.getD, hlt]
      have hcut : (bs l).extract k (k + 1) = bs [l.getD k 0] := by
        rw [bs_cut, HD.out]
        simp
      generalize l.getD k 0 = c at *
      generalize signAt (bs l) k = C at *
      by_cases h10 : C = 10
      · subst h10
        obtain rfl : c = 10 := UInt8.toNat_inj.1 (by have := HC.out; show c.toNat = 10; omega)
        by_cases hcu : cu = []
        · subst hcu
          have hb0 : bs [] = ⟨#[]⟩ := rfl
          go_wp2
          go_roundw
          case rel => exact ⟨k + 1, ol, [], false, by omega, by go_num, rfl, rfl, HO.out, HB.out, by omega, by simp, by show wordsL l = _; rw [HP.out, HD.out, wds_10, if_pos rfl]⟩
          case measure => simp [intOf]; omega
        · have n1 := bsn hcu
          have n2 := bsn2 hcu
          have n3 := bsn3 hcu
          have n4 := bsn4 hcu
          go_wp2_with (at_builtin; refine wpList_append_own _ rfl _ _ 76 rfl w.heap.size 9 i0 _ 1 16 Tryd.underlying76 hi hz0 hz1 hz2 rfl (by decide) _ _ _ rfl (HO.out.alloc _) ⟨wr.heap.size, 0, none⟩ 1 1 [.string (bs cu)] rfl rfl ?c1 ?c2 ?c3 ?c4 ?c5 ?_)
          case c1 => exact one_at _ _ _
          case c2 => intro u hu; simp at hu; subst hu; rfl
          case c3 => unfold maxLen; omega
          case c4 => omega
          case c5 => have := HB.out.size; simp; omega
          intro v3 w3 hown' hgrow _
          have HB3 : Hid (Below w.heap.size w w3) := (HB.out.alloc HB.out.size _).grown hgrow (by have := HB.out.size; simp; omega) (fun j hj => (HO.out.lt j hj).1)
          have HO3 : Hid (w3.ownsRow w.heap.size 9 1 v3 (ol ++ [cu]).length ((ol ++ [cu]).map sW)) := by rw [List.map_append, List.length_append]; exact hown'
          clear hown' hgrow
          go_wp2
          go_roundw
          case rel => exact ⟨k + 1, ol ++ [cu], [], false, by omega, by go_num, rfl, rfl, HO3.out, HB3.out, by simp; omega, by simp, by show wordsL l = _; rw [HP.out, HD.out, wds_10, if_neg hcu]; simp⟩
          case measure => simp [intOf]; omega
      · have e10 : (C == 10) = false := by simpa using h10
        have g10 : c ≠ 10 := fun e => h10 (by have := HC.out; rw [e] at this; exact this)
        by_cases h35 : C = 35
        · subst h35
          obtain rfl : c = 35 := UInt8.toNat_inj.1 (by have := HC.out; show c.toNat = 35; omega)
          by_cases hcu : cu = []
          · subst hcu
            have hb0 : bs [] = ⟨#[]⟩ := rfl
            go_wp2
            go_roundw
            case rel => exact ⟨k + 1, ol, [], true, by omega, by go_num, rfl, rfl, HO.out, HB.out, by omega, by simp, by show wordsL l = _; rw [HP.out, HD.out, wds_35, if_pos rfl]⟩
            case measure => simp [intOf]; omega
          · have n1 := bsn hcu
            have n2 := bsn2 hcu
            have n3 := bsn3 hcu
            have n4 := bsn4 hcu
            go_wp2_with (at_builtin; refine wpList_append_own _ rfl _ _ 76 rfl w.heap.size 9 i0 _ 1 16 Tryd.underlying76 hi hz0 hz1 hz2 rfl (by decide) _ _ _ rfl (HO.out.alloc _) ⟨wr.heap.size, 0, none⟩ 1 1 [.string (bs cu)] rfl rfl ?c1 ?c2 ?c3 ?c4 ?c5 ?_)
            case c1 => exact one_at _ _ _
            case c2 => intro u hu; simp at hu; subst hu; rfl
            case c3 => unfold maxLen; omega
            case c4 => omega
            case c5 => have := HB.out.size; simp; omega
            intro v3 w3 hown' hgrow _
            have HB3 : Hid (Below w.heap.size w w3) := (HB.out.alloc HB.out.size _).grown hgrow (by have := HB.out.size; simp; omega) (fun j hj => (HO.out.lt j hj).1)
            have HO3 : Hid (w3.ownsRow w.heap.size 9 1 v3 (ol ++ [cu]).length ((ol ++ [cu]).map sW)) := by rw [List.map_append, List.length_append]; exact hown'
            clear hown' hgrow
            go_wp2
            go_roundw
            case rel => exact ⟨k + 1, ol ++ [cu], [], true, by omega, by go_num, rfl, rfl, HO3.out, HB3.out, by simp; omega, by simp, by show wordsL l = _; rw [HP.out, HD.out, wds_35, if_neg hcu]; simp⟩
            case measure => simp [intOf]; omega
        · have e35 : (C == 35) = false := by simpa using h35
          have g35 : c ≠ 35 := fun e => h35 (by have := HC.out; rw [e] at this; exact this)
          by_cases h32 : C = 32
          · subst h32
            obtain rfl : c = 32 := UInt8.toNat_inj.1 (by have := HC.out; show c.toNat = 32; omega)
            cases rm
            · by_cases hcu : cu = []
              · subst hcu
                have hb0 : bs [] = ⟨#[]⟩ := rfl
                go_wp2
                go_roundw
                case rel => exact ⟨k + 1, ol, [], false, by omega, by go_num, rfl, rfl, HO.out, HB.out, by omega, by simp, by show wordsL l = _; rw [HP.out, HD.out, wds_32, if_pos rfl]⟩
                case measure => simp [intOf]; omega
              · have n1 := bsn hcu
                have n2 := bsn2 hcu
                have n3 := bsn3 hcu
                have n4 := bsn4 hcu
                go_wp2_with (at_builtin; refine wpList_append_own _ rfl _ _ 76 rfl w.heap.size 9 i0 _ 1 16 Tryd.underlying76 hi hz0 hz1 hz2 rfl (by decide) _ _ _ rfl (HO.out.alloc _) ⟨wr.heap.size, 0, none⟩ 1 1 [.string (bs cu)] rfl rfl ?c1 ?c2 ?c3 ?c4 ?c5 ?_)
                case c1 => exact one_at _ _ _
                case c2 => intro u hu; simp at hu; subst hu; rfl
                case c3 => unfold maxLen; omega
                case c4 => omega
                case c5 => have := HB.out.size; simp; omega
                intro v3 w3 hown' hgrow _
                have HB3 : Hid (Below w.heap.size w w3) := (HB.out.alloc HB.out.size _).grown hgrow (by have := HB.out.size; simp; omega) (fun j hj => (HO.out.lt j hj).1)
                have HO3 : Hid (w3.ownsRow w.heap.size 9 1 v3 (ol ++ [cu]).length ((ol ++ [cu]).map sW)) := by rw [List.map_append, List.length_append]; exact hown'
                clear hown' hgrow
                go_wp2
                go_roundw
                case rel => exact ⟨k + 1, ol ++ [cu], [], false, by omega, by go_num, rfl, rfl, HO3.out, HB3.out, by simp; omega, by simp, by show wordsL l = _; rw [HP.out, HD.out, wds_32, if_neg hcu]; simp⟩
                case measure => simp [intOf]; omega
            · by_cases hcu : cu = []
              · subst hcu
                have hb0 : bs [] = ⟨#[]⟩ := rfl
                go_wp2
                go_roundw
                case rel => exact ⟨k + 1, ol, [], true, by omega, by go_num, rfl, rfl, HO.out, HB.out, by omega, by simp, by show wordsL l = _; rw [HP.out, HD.out, wds_32, if_pos rfl]⟩
                case measure => simp [intOf]; omega
              · have n1 := bsn hcu
                have n2 := bsn2 hcu
                have n3 := bsn3 hcu
                have n4 := bsn4 hcu
                go_wp2_with (at_builtin; refine wpList_append_own _ rfl _ _ 76 rfl w.heap.size 9 i0 _ 1 16 Tryd.underlying76 hi hz0 hz1 hz2 rfl (by decide) _ _ _ rfl (HO.out.alloc _) ⟨wr.heap.size, 0, none⟩ 1 1 [.string (bs cu)] rfl rfl ?c1 ?c2 ?c3 ?c4 ?c5 ?_)
                case c1 => exact one_at _ _ _
                case c2 => intro u hu; simp at hu; subst hu; rfl
                case c3 => unfold maxLen; omega
                case c4 => omega
                case c5 => have := HB.out.size; simp; omega
                intro v3 w3 hown' hgrow _
                have HB3 : Hid (Below w.heap.size w w3) := (HB.out.alloc HB.out.size _).grown hgrow (by have := HB.out.size; simp; omega) (fun j hj => (HO.out.lt j hj).1)
                have HO3 : Hid (w3.ownsRow w.heap.size 9 1 v3 (ol ++ [cu]).length ((ol ++ [cu]).map sW)) := by rw [List.map_append, List.length_append]; exact hown'
                clear hown' hgrow
                go_wp2
                go_roundw
                case rel => exact ⟨k + 1, ol ++ [cu], [], true, by omega, by go_num, rfl, rfl, HO3.out, HB3.out, by simp; omega, by simp, by show wordsL l = _; rw [HP.out, HD.out, wds_32, if_neg hcu]; simp⟩
                case measure => simp [intOf]; omega
          · have e32 : (C == 32) = false := by simpa using h32
            have g32 : c ≠ 32 := fun e => h32 (by have := HC.out; rw [e] at this; exact this)
            cases rm
            · have hc1 : (bs [c]).size = 1 := bs_size _
              go_wp2
              go_roundw
              case rel =>
                refine ⟨k + 1, ol, cu ++ [c], false, by omega, by go_num, ?_, rfl, HO.out, HB.out, by omega, by simp; omega, by show wordsL l = _; rw [HP.out, HD.out, wds_f _ _ _ g10 g35 g32]⟩
                rw [bs_app]
              case measure => simp [intOf]; omega
            · by_cases hcu : cu = []
              · subst hcu
                have hb0 : bs [] = ⟨#[]⟩ := rfl
                go_wp2
                go_roundw
                case rel => exact ⟨k + 1, ol, [], true, by omega, by go_num, rfl, rfl, HO.out, HB.out, by omega, by simp, by show wordsL l = _; rw [HP.out, HD.out, wds_t _ _ _ g10 g35 g32, if_pos rfl]⟩
                case measure => simp [intOf]; omega
              · have n1 := bsn hcu
                have n2 := bsn2 hcu
                have n3 := bsn3 hcu
                have n4 := bsn4 hcu
                go_wp2_with (at_builtin; refine wpList_append_own _ rfl _ _ 76 rfl w.heap.size 9 i0 _ 1 16 Tryd.underlying76 hi hz0 hz1 hz2 rfl (by decide) _ _ _ rfl (HO.out.alloc _) ⟨wr.heap.size, 0, none⟩ 1 1 [.string (bs cu)] rfl rfl ?c1 ?c2 ?c3 ?c4 ?c5 ?_)
                case c1 => exact one_at _ _ _
                case c2 => intro u hu; simp at hu; subst hu; rfl
                case c3 => unfold maxLen; omega
                case c4 => omega
                case c5 => have := HB.out.size; simp; omega
                intro v3 w3 hown' hgrow _
                have HB3 : Hid (Below w.heap.size w w3) := (HB.out.alloc HB.out.size _).grown hgrow (by have := HB.out.size; simp; omega) (fun j hj => (HO.out.lt j hj).1)
                have HO3 : Hid (w3.ownsRow w.heap.size 9 1 v3 (ol ++ [cu]).length ((ol ++ [cu]).map sW)) := by rw [List.map_append, List.length_append]; exact hown'
                clear hown' hgrow
                go_wp2
                go_roundw
                case rel => exact ⟨k + 1, ol ++ [cu], [], true, by omega, by go_num, rfl, rfl, HO3.out, HB3.out, by simp; omega, by simp, by show wordsL l = _; rw [HP.out, HD.out, wds_t _ _ _ g10 g35 g32, if_neg hcu]; simp⟩
                case measure => simp [intOf]; omega
    · obtain rfl : k = l.length := by omega
      have HE : Hid (wordsL l = ol ++ (if cu = [] then [] else [cu])) := by
        show wordsL l = _
        rw [HP.out, List.drop_length]; rfl
      by_cases hcu : cu = []
      · subst hcu
        rw [if_pos rfl, List.append_nil] at HE
        rw [← HE.out] at HO
        have hb0 : bs [] = ⟨#[]⟩ := rfl
        go_wp2
        go_ret
        exact ⟨_, rfl, HO.out, HB.out⟩
      · have n1 := bsn hcu
        have n2 := bsn2 hcu
        have n3 := bsn3 hcu
        have n4 := bsn4 hcu
        rw [if_neg hcu] at HE
        go_wp2_with (at_builtin; refine wpList_append_own _ rfl _ _ 76 rfl w.heap.size 9 i0 _ 1 16 Tryd.underlying76 hi hz0 hz1 hz2 rfl (by decide) _ _ _ rfl (HO.out.alloc _) ⟨wr.heap.size, 0, none⟩ 1 1 [.string (bs cu)] rfl rfl ?c1 ?c2 ?c3 ?c4 ?c5 ?_)
        case c1 => exact one_at _ _ _
        case c2 => intro u hu; simp at hu; subst hu; rfl
        case c3 => unfold maxLen; omega
        case c4 => omega
        case c5 => have := HB.out.size; simp; omega
        intro v3 w3 hown' hgrow _
        have HB3 : Hid (Below w.heap.size w w3) := (HB.out.alloc HB.out.size _).grown hgrow (by have := HB.out.size; simp; omega) (fun j hj => (HO.out.lt j hj).1)
        have HO3 : Hid (w3.ownsRow w.heap.size 9 1 v3 (ol ++ [cu]).length ((ol ++ [cu]).map sW)) := by rw [List.map_append, List.length_append]; exact hown'
        clear hown' hgrow
        go_wp2
        rw [← HE.out] at HO3
        go_ret
        exact ⟨_, rfl, HO3.out, HB3.out⟩
end Go.Proofs.YtcigceaadkjenaaDoor
