/- Layer 15, P15.3: what was printed is parsed as it was. -/
import Derived.Test.YtcigceaadkjenaaDoorHexBack
import Derived.Test.YtcigceaadkjenaaDoorB1
import Derived.Test.YtcigceaadkjenaaDoorImgPrint
import Derived.Test.YtcigceaadkjenaaDoorImgMath2
import Derived.Test.YtcigceaadkjenaaDoorImgLight
namespace Go.Proofs.YtcigceaadkjenaaDoor
open Go.RowKit
set_option linter.unusedVariables false
set_option maxRecDepth 100000

theorem hexN_hexL (x : Int) (h0 : 0 ≤ x) (h1 : x < 4294967296) : hexN (hexL x) = x := by
  have hl := hexL_len x
  have hv := hex_val x h0 h1
  have hd := hex_digits x
  rw [hexL_str] at hv
  unfold hexN
  rw [hl, if_pos ⟨by decide, by decide, fun i hi => by rw [← hexL_str]; exact hd i hi⟩, hv]
/-- No blank, no line's end, no remark, no address. -/
def plainC (c : UInt8) : Bool := c != 10 && c != 32 && c != 35 && c != 64
theorem dig_plain : ∀ d : Fin 16, plainC (UInt8.ofNat (hexDig (d.val : Int)).toNat) = true := by decide +kernel
theorem hexL_plain (x : Int) : ∀ c ∈ hexL x, plainC c = true := fun c hc => by
  unfold hexL hexTo at hc
  simp only [List.map_map, List.mem_map] at hc
  obtain ⟨i, _, rfl⟩ := hc
  have b := bits4 x (28 - 4 * i)
  have := dig_plain ⟨(bitsOf x (28 - 4 * i) 4).toNat, by omega⟩
  simp only [Int.toNat_of_nonneg b.1] at this
  exact this
theorem byte_tab : ∀ n : Fin 256, hexN (byteL (n.val : Int)) = (n.val : Int) := by decide +kernel
theorem hexN_byteL (b : Int) (h0 : 0 ≤ b) (h1 : b < 256) : hexN (byteL b) = b := by
  have := byte_tab ⟨b.toNat, by omega⟩
  simpa only [Int.toNat_of_nonneg h0] using this
theorem byteL_plain (b : Int) : ∀ c ∈ byteL b, plainC c = true := fun c hc => hexL_plain b c (List.mem_of_mem_drop hc)

theorem wds_plain : ∀ (a cur r : List UInt8), (∀ c ∈ a, c ≠ 10 ∧ c ≠ 32 ∧ c ≠ 35) → wds cur false (a ++ r) = wds (cur ++ a) false r
  | [], cur, r, _ => by simp
  | c :: a, cur, r, h => by
    obtain ⟨h1, h2, h3⟩ := h c (by simp)
    rw [List.cons_append, wds]
    simp only [h1, h2, h3, if_false, or_self, Bool.false_eq_true]
    rw [wds_plain a (cur ++ [c]) r (fun x hx => h x (by simp [hx]))]
    simp
theorem plain_ne {c : UInt8} (h : plainC c = true) : c ≠ 10 ∧ c ≠ 32 ∧ c ≠ 35 ∧ c ≠ 64 := by
  simp only [plainC, Bool.and_eq_true, bne_iff_ne] at h
  exact ⟨h.1.1.1, h.1.1.2, h.1.2, h.2⟩
theorem byteL_ne (b : Int) : byteL b ≠ [] := fun h => by have := byteL_len b; rw [h] at this; cases this

theorem wds_bytes : ∀ (l : List Int) (cur r : List UInt8), cur ≠ [] → wds cur false (bytesL l ++ 10 :: r) = cur :: (l.map byteL ++ wds [] false r)
  | [], cur, r, h => by
    show wds cur false (10 :: r) = _
    rw [wds]
    simp [h]
  | b :: l, cur, r, h => by
    have e : bytesL (b :: l) ++ 10 :: r = 32 :: (byteL b ++ (bytesL l ++ 10 :: r)) := by simp [bytesL]
    rw [e, wds]
    simp only [h, if_false, or_true, true_or, if_true, (by decide : ¬ (32 : UInt8) = 10), (by decide : ¬ (32 : UInt8) = 35)]
    rw [wds_plain (byteL b) [] _ (fun c hc => by have := plain_ne (byteL_plain b c hc); exact ⟨this.1, this.2.1, this.2.2.1⟩), List.nil_append, wds_bytes l (byteL b) r (byteL_ne b)]
    simp
theorem wds_part (p : Prt) (r : List UInt8) : wds [] false (partL p ++ r) = (64 :: hexL p.1) :: (p.2.map byteL ++ wds [] false r) := by
  have e : partL p ++ r = (64 :: hexL p.1) ++ (bytesL p.2 ++ 10 :: r) := by simp [partL]
  rw [e, wds_plain (64 :: hexL p.1) [] _ (fun c hc => by
    rcases List.mem_cons.1 hc with rfl | hc
    · decide
    · have := plain_ne (hexL_plain p.1 c hc); exact ⟨this.1, this.2.1, this.2.2.1⟩), List.nil_append, wds_bytes _ _ _ (by simp)]

theorem fold_bytes (x : Int) (ws : List (List UInt8)) : ∀ (l acc : List Int) (qs : List Prt), (∀ b ∈ l, 0 ≤ b ∧ b < 256) → foldW hexN (qs ++ [(x, acc)]) (l.map byteL ++ ws) = foldW hexN (qs ++ [(x, acc ++ l)]) ws
  | [], acc, qs, _ => by simp
  | b :: l, acc, qs, h => by
    obtain ⟨b0, b1⟩ := h b (by simp)
    have hh : (byteL b).headD 0 ≠ 64 := by
      have hl := byteL_len b
      have hp := byteL_plain b
      generalize byteL b = y at *
      rcases y with _ | ⟨c, y⟩
      · cases hl
      · exact (plain_ne (hp c (by simp))).2.2.2
    have ht : takeL hexN (qs ++ [(x, acc)]) (byteL b) = some (qs ++ [(x, acc ++ [b])]) := by
      unfold takeL
      rw [if_neg hh, hexN_byteL b b0 b1, if_neg (by rw [byteL_len]; omega), addB_snoc, Int.emod_eq_of_lt b0 b1]
    rw [List.map_cons, List.cons_append, foldW, ht]
    show foldW hexN (qs ++ [(x, acc ++ [b])]) (l.map byteL ++ ws) = _
    rw [fold_bytes x ws l (acc ++ [b]) qs (fun y hy => h y (by simp [hy]))]
    simp
theorem fold_print : ∀ (ps qs : List Prt), Fine ps → foldW hexN qs (wds [] false (printL ps)) = some (qs ++ ps)
  | [], qs, _ => by simp [printL, wds, foldW]
  | p :: ps, qs, h => by
    obtain ⟨f0, f1, f2⟩ := h p (by simp)
    have e : printL (p :: ps) = partL p ++ printL ps := by simp [printL]
    have ht : takeL hexN qs (64 :: hexL p.1) = some (qs ++ [(p.1, [])]) := by
      unfold takeL
      rw [if_pos (show (64 :: hexL p.1).headD 0 = 64 from rfl)]
      show (if hexN (hexL p.1) < 0 then none else some (qs ++ [(hexN (hexL p.1), [])])) = _
      rw [hexN_hexL _ f0 f1, if_neg (by omega)]
    rw [e, wds_part, foldW, ht]
    show foldW hexN (qs ++ [(p.1, [])]) (p.2.map byteL ++ _) = _
    rw [fold_bytes p.1 _ p.2 [] qs f2, fold_print ps _ (fun q hq => h q (by simp [hq]))]
    simp
theorem sumL_le : ∀ (ps : List Prt), (∀ p ∈ ps, p.2.length ≤ 1000) → sumL ps ≤ 1000 * ps.length
  | [], _ => by simp [sumL]
  | p :: ps, h => by
    have := sumL_le ps (fun q hq => h q (by simp [hq]))
    have h1 := h p (by simp)
    simp only [sumL, List.map_cons, List.sum_cons, List.length_cons] at *
    omega
/-- P15.3. -/
theorem parse_print (ps : List Prt) (h : Fine ps) (hl : lightB ps = true) : parseL hexN (printL ps) = (ps, 0) := by
  have h1 : foldW hexN [] (wordsL (printL ps)) = some ps := by
    rw [← wds_words, fold_print ps [] h]; rfl
  obtain ⟨l1, l2⟩ : ps.length ≤ 30 ∧ ∀ p ∈ ps, p.2.length ≤ 1000 := by simpa [lightB] using hl
  have h2 := sumL_le ps l2
  rw [parse_some h1, if_neg]
  simp only [longL, decide_eq_true_eq]
  omega
theorem print_len : ∀ (ps : List Prt), (∀ p ∈ ps, p.2.length ≤ 1000) → (printL ps).length ≤ 3010 * ps.length
  | [], _ => by simp [printL]
  | p :: ps, h => by
    have e : printL (p :: ps) = partL p ++ printL ps := by simp [printL]
    have := print_len ps (fun q hq => h q (by simp [hq]))
    have h1 := h p (by simp)
    have h2 := bytesL_len p.2
    rw [e, List.length_append]
    simp only [partL, List.length_cons, List.length_append, hexL_len, List.length_nil]
    omega
end Go.Proofs.YtcigceaadkjenaaDoor
