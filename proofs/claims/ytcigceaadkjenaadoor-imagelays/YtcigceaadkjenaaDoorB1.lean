/- My texts ImgLight, HexBack, ImgBack, RamSteps, ImgOpen, bound into one. -/
import Derived.Test.YtcigceaadkjenaaDoorImgRd
import Derived.Test.YtcigceaadkjenaaDoorUnhex
import Derived.Test.YtcigceaadkjenaaDoorHexN
import Derived.Test.YtcigceaadkjenaaDoorImgPrint
import Derived.Test.YtcigceaadkjenaaDoorImgMath2
import Derived.Test.YtcigceaadkjenaaDoorFrame
import Derived.Test.YtcigceaadkjenaaDoorRamMath
/- Layer 15: light. -/
namespace Go.Proofs.YtcigceaadkjenaaDoor
open Go.RowKit
set_option linter.unusedVariables false
set_option linter.unusedSimpArgs false
set_option maxRecDepth 100000

def lightB (ps : List Prt) : Bool := decide (ps.length ≤ 30 ∧ ∀ p ∈ ps, p.2.length ≤ 1000)

set_option maxHeartbeats 1000000 in
theorem light15_any (v : Value) (ps : List Prt) (w : World) (h : RdPs w v ps) (hm : ∀ p ∈ ps, p.2.length ≤ maxLen) :
    Calls Tryd.prog 7 #[v] w fun e w' => e = .returned (.bool (lightB ps)) ∧ w' = w := by
  unfold maxLen at hm
  obtain ⟨a, c, rfl, h⟩ := h
  have HL : Hid (∀ b : Bool, (b = true ↔ (ps.length ≤ 30 ∧ ∀ p ∈ ps, p.2.length ≤ 1000)) → lightB ps = b) := fun b hb => by
    unfold lightB
    cases b
    · exact decide_eq_false (fun x => by have := hb.2 x; cases this)
    · exact decide_eq_true (hb.1 rfl)
  go_enter Tryd.func7, Tryd.ntmps7
  by_cases h30 : ps.length ≤ 30
  · go_wp2
    go_loop [3] (fun i => ∃ k : Nat, k ≤ ps.length ∧ i = .int .i64 (k : Int) ∧ Hid (∀ p ∈ ps.take k, p.2.length ≤ 1000)) (fun i => ps.length - (intOf i).toNat)
    case atStart => exact ⟨0, Nat.zero_le _, rfl, fun p hp => by simp at hp⟩
    case round =>
      obtain ⟨k, hk, rfl, HS⟩ := hrel
      by_cases hlt : k < ps.length
      · rcases h with h | ⟨b, o, rfl, hi⟩
        · subst h; simp at hlt
        · obtain ⟨p, hp⟩ : ∃ p, ps[k]? = some p := ⟨_, List.getElem?_eq_getElem hlt⟩
          obtain ⟨c0, a1, cp, c1, _⟩ := hi k p hp
          have hpm := List.mem_of_getElem? hp
          have hmp := hm p hpm
          have HP := Lib.hid hp
          have HPM := Lib.hid hpm
          have HI := Lib.hid hi
          have HM := Lib.hid hm
          clear hi hm hp hpm
          obtain ⟨p1, p2⟩ := p
          replace hmp : p2.length ≤ 9223372036854775807 := hmp
          by_cases h10 : p2.length ≤ 1000
          · go_wp2
            go_round
            case rel =>
              refine ⟨k + 1, by omega, by go_num, fun q hq => ?_⟩
              rw [List.take_add_one, HP.out] at hq
              rcases List.mem_append.1 hq with h | h
              · exact HS.out q h
              · simp at h; subst h; exact h10
            case measure => simp [intOf]; omega
          · have hgt : (1000 : Int) < (p2.length : Int) := by omega
            have HF := Lib.hid (HL.out false ⟨fun h => (by cases h), fun h => absurd (h.2 _ HPM.out) h10⟩)
            go_wp2
            go_ret
            exact ⟨by rw [HF.out]; rfl, rfl⟩
      · obtain rfl : k = ps.length := by omega
        rw [List.take_length] at HS
        have HF := Lib.hid (HL.out true ⟨fun _ => ⟨h30, HS.out⟩, fun _ => rfl⟩)
        go_wp2
        go_ret
        exact ⟨by rw [HF.out]; rfl, rfl⟩
  · have hgt : (30 : Int) < (ps.length : Int) := by omega
    have HF := Lib.hid (HL.out false ⟨fun h => (by cases h), fun h => absurd h.1 h30⟩)
    go_wp2
    go_ret
    exact ⟨by rw [HF.out]; rfl, rfl⟩
end Go.Proofs.YtcigceaadkjenaaDoor

/- The digits of a word, read back. Taken out of WordHexes in round 16. -/
namespace Go.Proofs.YtcigceaadkjenaaDoor
open Go.RowKit
set_option linter.unusedVariables false

theorem dig_bd (d : Int) (h0 : 0 ≤ d) (h1 : d < 16) : 0 ≤ hexDig d ∧ hexDig d < 256 := by unfold hexDig; split <;> omega
theorem digVal_dig (d : Int) (h0 : 0 ≤ d) (h1 : d < 16) : digVal (hexDig d) = d := by
  have hn : d = 0 ∨ d = 1 ∨ d = 2 ∨ d = 3 ∨ d = 4 ∨ d = 5 ∨ d = 6 ∨ d = 7 ∨ d = 8 ∨ d = 9 ∨ d = 10 ∨ d = 11 ∨ d = 12 ∨ d = 13 ∨ d = 14 ∨ d = 15 := by omega
  rcases hn with rfl | rfl | rfl | rfl | rfl | rfl | rfl | rfl | rfl | rfl | rfl | rfl | rfl | rfl | rfl | rfl <;> decide

theorem bits4 (x a : Int) : 0 ≤ bitsOf x a 4 ∧ bitsOf x a 4 < 16 := ⟨bitsOf_nn _ _ _, bitsOf_lt x a 4⟩

theorem sign_hex (x : Int) (i : Nat) (h : i < 8) : signAt (strOfNums (hexTo x 8)) i = hexAt x i := by
  have b := bits4 x (28 - 4 * i)
  have d := dig_bd _ b.1 b.2
  unfold signAt strOfNums hexTo
  simp only [List.map_map, List.getElem?_toArray, List.getElem?_map, List.getElem?_range h]
  simp only [Option.map_some, Option.getD_some, Function.comp]
  have e : ((UInt8.ofNat (hexAt x i).toNat).toNat : Int) = hexAt x i := by
    unfold hexAt
    simp
    omega
  exact e

theorem hex_val (x : Int) (h0 : 0 ≤ x) (h1 : x < 4294967296) : valTo (signAt (strOfNums (hexTo x 8))) 8 = x := by
  have s := fun i h => sign_hex x i h
  have v : ∀ i, i < 8 → digVal (signAt (strOfNums (hexTo x 8)) i) = bitsOf x (28 - 4 * i) 4 := fun i h => by
    rw [s i h]; unfold hexAt; have b := bits4 x (28 - 4 * i); exact digVal_dig _ b.1 b.2
  simp only [valTo]
  rw [v 0 (by omega), v 1 (by omega), v 2 (by omega), v 3 (by omega), v 4 (by omega), v 5 (by omega), v 6 (by omega), v 7 (by omega)]
  have p0 : pw 0 = 1 := by decide
  have p4 : pw 4 = 16 := by decide
  have p8 : pw 8 = 256 := by decide
  have p12 : pw 12 = 4096 := by decide
  have p16 : pw 16 = 65536 := by decide
  have p20 : pw 20 = 1048576 := by decide
  have p24 : pw 24 = 16777216 := by decide
  have p28 : pw 28 = 268435456 := by decide
  simp [bitsOf, p0, p4, p8, p12, p16, p20, p24, p28]
  omega

theorem hex_digits (x : Int) (i : Nat) (h : i < 8) : 0 ≤ digVal (signAt (strOfNums (hexTo x 8)) i) := by
  rw [sign_hex x i h]; unfold hexAt; have b := bits4 x (28 - 4 * i); rw [digVal_dig _ b.1 b.2]; exact b.1

end Go.Proofs.YtcigceaadkjenaaDoor

/- Layer 15, P15.3: what was printed is parsed as it was. -/
namespace Go.Proofs.YtcigceaadkjenaaDoor
open Go.RowKit
set_option linter.unusedVariables false
set_option maxRecDepth 100000

theorem hexN_hexL (x : Int) (h0 : 0 ≤ x) (h1 : x < 4294967296) : hexN (hexL x) = x := by
  have hl := hexL_len x
  have hv := hex_val x h0 h1
  have hd := hex_digits x
  rw [hexL_str] at hv
  unfold hexN
  rw [hl, if_pos ⟨by decide, by decide, fun i hi => by rw [← hexL_str]; exact hd i hi⟩, hv]
/-- No blank, no line's end, no remark, no address. -/
def plainC (c : UInt8) : Bool := c != 10 && c != 32 && c != 35 && c != 64
theorem dig_plain : ∀ d : Fin 16, plainC (UInt8.ofNat (hexDig (d.val : Int)).toNat) = true := by decide +kernel
theorem hexL_plain (x : Int) : ∀ c ∈ hexL x, plainC c = true := fun c hc => by
  unfold hexL hexTo at hc
  simp only [List.map_map, List.mem_map] at hc
  obtain ⟨i, _, rfl⟩ := hc
  have b := bits4 x (28 - 4 * i)
  have := dig_plain ⟨(bitsOf x (28 - 4 * i) 4).toNat, by omega⟩
  simp only [Int.toNat_of_nonneg b.1] at this
  exact this
theorem byte_tab : ∀ n : Fin 256, hexN (byteL (n.val : Int)) = (n.val : Int) := by decide +kernel
theorem hexN_byteL (b : Int) (h0 : 0 ≤ b) (h1 : b < 256) : hexN (byteL b) = b := by
  have := byte_tab ⟨b.toNat, by omega⟩
  simpa only [Int.toNat_of_nonneg h0] using this
theorem byteL_plain (b : Int) : ∀ c ∈ byteL b, plainC c = true := fun c hc => hexL_plain b c (List.mem_of_mem_drop hc)

theorem wds_plain : ∀ (a cur r : List UInt8), (∀ c ∈ a, c ≠ 10 ∧ c ≠ 32 ∧ c ≠ 35) → wds cur false (a ++ r) = wds (cur ++ a) false r
  | [], cur, r, _ => by simp
  | c :: a, cur, r, h => by
    obtain ⟨h1, h2, h3⟩ := h c (by simp)
    rw [List.cons_append, wds]
    simp only [h1, h2, h3, if_false, or_self, Bool.false_eq_true]
    rw [wds_plain a (cur ++ [c]) r (fun x hx => h x (by simp [hx]))]
    simp
theorem plain_ne {c : UInt8} (h : plainC c = true) : c ≠ 10 ∧ c ≠ 32 ∧ c ≠ 35 ∧ c ≠ 64 := by
  simp only [plainC, Bool.and_eq_true, bne_iff_ne] at h
  exact ⟨h.1.1.1, h.1.1.2, h.1.2, h.2⟩
theorem byteL_ne (b : Int) : byteL b ≠ [] := fun h => by have := byteL_len b; rw [h] at this; cases this

theorem wds_bytes : ∀ (l : List Int) (cur r : List UInt8), cur ≠ [] → wds cur false (bytesL l ++ 10 :: r) = cur :: (l.map byteL ++ wds [] false r)
  | [], cur, r, h => by
    show wds cur false (10 :: r) = _
    rw [wds]
    simp [h]
  | b :: l, cur, r, h => by
    have e : bytesL (b :: l) ++ 10 :: r = 32 :: (byteL b ++ (bytesL l ++ 10 :: r)) := by simp [bytesL]
    rw [e, wds]
    simp only [h, if_false, or_true, true_or, if_true, (by decide : ¬ (32 : UInt8) = 10), (by decide : ¬ (32 : UInt8) = 35)]
    rw [wds_plain (byteL b) [] _ (fun c hc => by have := plain_ne (byteL_plain b c hc); exact ⟨this.1, this.2.1, this.2.2.1⟩), List.nil_append, wds_bytes l (byteL b) r (byteL_ne b)]
    simp
theorem wds_part (p : Prt) (r : List UInt8) : wds [] false (partL p ++ r) = (64 :: hexL p.1) :: (p.2.map byteL ++ wds [] false r) := by
  have e : partL p ++ r = (64 :: hexL p.1) ++ (bytesL p.2 ++ 10 :: r) := by simp [partL]
  rw [e, wds_plain (64 :: hexL p.1) [] _ (fun c hc => by
    rcases List.mem_cons.1 hc with rfl | hc
    · decide
    · have := plain_ne (hexL_plain p.1 c hc); exact ⟨this.1, this.2.1, this.2.2.1⟩), List.nil_append, wds_bytes _ _ _ (by simp)]

theorem fold_bytes (x : Int) (ws : List (List UInt8)) : ∀ (l acc : List Int) (qs : List Prt), (∀ b ∈ l, 0 ≤ b ∧ b < 256) → foldW hexN (qs ++ [(x, acc)]) (l.map byteL ++ ws) = foldW hexN (qs ++ [(x, acc ++ l)]) ws
  | [], acc, qs, _ => by simp
  | b :: l, acc, qs, h => by
    obtain ⟨b0, b1⟩ := h b (by simp)
    have hh : (byteL b).headD 0 ≠ 64 := by
      have hl := byteL_len b
      have hp := byteL_plain b
      generalize byteL b = y at *
      rcases y with _ | ⟨c, y⟩
      · cases hl
      · exact (plain_ne (hp c (by simp))).2.2.2
    have ht : takeL hexN (qs ++ [(x, acc)]) (byteL b) = some (qs ++ [(x, acc ++ [b])]) := by
      unfold takeL
      rw [if_neg hh, hexN_byteL b b0 b1, if_neg (by rw [byteL_len]; omega), addB_snoc, Int.emod_eq_of_lt b0 b1]
    rw [List.map_cons, List.cons_append, foldW, ht]
    show foldW hexN (qs ++ [(x, acc ++ [b])]) (l.map byteL ++ ws) = _
    rw [fold_bytes x ws l (acc ++ [b]) qs (fun y hy => h y (by simp [hy]))]
    simp
theorem fold_print : ∀ (ps qs : List Prt), Fine ps → foldW hexN qs (wds [] false (printL ps)) = some (qs ++ ps)
  | [], qs, _ => by simp [printL, wds, foldW]
  | p :: ps, qs, h => by
    obtain ⟨f0, f1, f2⟩ := h p (by simp)
    have e : printL (p :: ps) = partL p ++ printL ps := by simp [printL]
    have ht : takeL hexN qs (64 :: hexL p.1) = some (qs ++ [(p.1, [])]) := by
      unfold takeL
      rw [if_pos (show (64 :: hexL p.1).headD 0 = 64 from rfl)]
      show (if hexN (hexL p.1) < 0 then none else some (qs ++ [(hexN (hexL p.1), [])])) = _
      rw [hexN_hexL _ f0 f1, if_neg (by omega)]
    rw [e, wds_part, foldW, ht]
    show foldW hexN (qs ++ [(p.1, [])]) (p.2.map byteL ++ _) = _
    rw [fold_bytes p.1 _ p.2 [] qs f2, fold_print ps _ (fun q hq => h q (by simp [hq]))]
    simp
theorem sumL_le : ∀ (ps : List Prt), (∀ p ∈ ps, p.2.length ≤ 1000) → sumL ps ≤ 1000 * ps.length
  | [], _ => by simp [sumL]
  | p :: ps, h => by
    have := sumL_le ps (fun q hq => h q (by simp [hq]))
    have h1 := h p (by simp)
    simp only [sumL, List.map_cons, List.sum_cons, List.length_cons] at *
    omega
/-- P15.3. -/
theorem parse_print (ps : List Prt) (h : Fine ps) (hl : lightB ps = true) : parseL hexN (printL ps) = (ps, 0) := by
  have h1 : foldW hexN [] (wordsL (printL ps)) = some ps := by
    rw [← wds_words, fold_print ps [] h]; rfl
  obtain ⟨l1, l2⟩ : ps.length ≤ 30 ∧ ∀ p ∈ ps, p.2.length ≤ 1000 := by simpa [lightB] using hl
  have h2 := sumL_le ps l2
  rw [parse_some h1, if_neg]
  simp only [longL, decide_eq_true_eq]
  omega
theorem print_len : ∀ (ps : List Prt), (∀ p ∈ ps, p.2.length ≤ 1000) → (printL ps).length ≤ 3010 * ps.length
  | [], _ => by simp [printL]
  | p :: ps, h => by
    have e : printL (p :: ps) = partL p ++ printL ps := by simp [printL]
    have := print_len ps (fun q hq => h q (by simp [hq]))
    have h1 := h p (by simp)
    have h2 := bytesL_len p.2
    rw [e, List.length_append]
    simp only [partL, List.length_cons, List.length_append, hexL_len, List.length_nil]
    omega
end Go.Proofs.YtcigceaadkjenaaDoor

/- Layer 10: a slice of steps as an argument: its cells, five by five; the bytes of each. -/
namespace Go.Proofs.YtcigceaadkjenaaDoor
open Go.ChangeShapes Go.WideShapes Go.ChangeAt Go.RowKit
set_option linter.unusedVariables false

/-- A step as it came in. -/
structure St where
  kind : Int
  addr : Int
  n : Int
  x : Int
  sv : Option Addr
  sl : Nat
  sc : Nat
  f : Nat → Int

/-- The bytes of a step. -/
def SrcB (w : World) (s : St) : Prop := s.sl ≤ s.sc ∧ s.sl ≤ maxLen ∧ (s.sl = 0 ∨ ∃ b o, s.sv = some ⟨b, o, none⟩ ∧ ∀ i, i < s.sl → w.cell? ⟨b, o + i, none⟩ = some (.int .u8 (s.f i)) ∧ 0 ≤ s.f i ∧ s.f i < 256)
/-- Five cells of block B from o on: a step. -/
def StepC (w : World) (B o : Nat) (s : St) : Prop := w.cell? ⟨B, o, none⟩ = some (.int .i64 s.kind) ∧ w.cell? ⟨B, o + 1, none⟩ = some (.int .u32 s.addr) ∧ w.cell? ⟨B, o + 2, none⟩ = some (.int .i64 s.n) ∧ w.cell? ⟨B, o + 3, none⟩ = some (.int .u32 s.x) ∧ w.cell? ⟨B, o + 4, none⟩ = some (.slice s.sv s.sl s.sc)
def IsSteps (w : World) (a : Option Addr) (len : Nat) (F : Nat → St) : Prop :=
  len ≤ maxLen ∧ (len = 0 ∨ ∃ b off, a = some ⟨b, off, none⟩ ∧ ∀ i, i < len → StepC w b (off + i * 5) (F i) ∧ (0 ≤ (F i).addr ∧ (F i).addr < 4294967296 ∧ 0 ≤ (F i).x ∧ (F i).x < 4294967296) ∧ SrcB w (F i))

theorem list5 {α : Type} {l : List α} (h : l.length = 5) : ∃ c0 c1 c2 c3 c4, l = [c0, c1, c2, c3, c4] := by
  match l, h with
  | [c0, c1, c2, c3, c4], _ => exact ⟨c0, c1, c2, c3, c4, rfl⟩

section
variable {H : Type} {enc : TypeId × Value → H} {P : Program} {w : World} {base : Nat} {spare : Nat → Bool} {held : Bool}

theorem open_bytes {t e : TypeId} {fuel : Nat} {c : Value} {x : DataW H × List MemPlace} (ht : P.underlying t = some (.slice e)) (he : P.underlying e = some (.int .u8)) (hc : P.cellsOf e = 1)
    (h : DataW.trod enc P w base spare held fuel t [c] = some x) : ∃ (sv : Option Addr) (sl sc : Nat) (f : Nat → Int), c = .slice sv sl sc ∧ sl ≤ sc ∧ sl ≤ maxLen ∧ (sl = 0 ∨ ∃ b o, sv = some ⟨b, o, none⟩ ∧ ∀ i, i < sl → w.cell? ⟨b, o + i, none⟩ = some (.int .u8 (f i)) ∧ 0 ≤ f i ∧ f i < 256) := by
  rcases open_ints ht he hc h with ⟨hcs, _⟩ | ⟨a, l, k, zs, hcs, _, hl, hm, hz, _, hcell, hwz⟩
  · simp at hcs
    exact ⟨none, 0, 0, fun _ => 0, hcs, Nat.le_refl _, by unfold maxLen; omega, .inl rfl⟩
  · simp at hcs
    refine ⟨some a, l, k, fun i => zs.getD i 0, hcs, hl, by omega, ?_⟩
    by_cases h0 : l = 0
    · exact .inl h0
    · right
      have hzl : l ≤ zs.length := by rw [hz]; split <;> omega
      obtain ⟨b, o, spot⟩ := a
      have hspot : spot = none := by
        have := World.cell?_spot (hcell 0 (by omega))
        simpa [Addr.add] using this
      subst hspot
      refine ⟨b, o, rfl, fun i hi => ?_⟩
      have h1 := hcell i (by omega)
      rw [add_plain] at h1
      have h2 := range_u8 hwz i
      simp only [List.getD] at h1 ⊢
      exact ⟨h1, by omega, by omega⟩

theorem open_steps {t e e' : TypeId} {f0 f1 f2 f3 f4 : Field} {fuel : Nat} {a : Option Addr} {len cap : Nat} {x : DataW H × List MemPlace} (ht : P.underlying t = some (.slice e)) (hs : P.underlying e = some (.struct #[f0, f1, f2, f3, f4]))
    (ho : #[f0, f1, f2, f3, f4].map (·.offset) = #[0, 1, 2, 3, 4]) (hc : #[f0, f1, f2, f3, f4].map (fun f => P.cellsOf f.type) = #[1, 1, 1, 1, 1]) (hC : P.cellsOf e = 5)
    (u0 : P.underlying f0.type = some (.int .i64)) (u1 : P.underlying f1.type = some (.int .u32)) (u2 : P.underlying f2.type = some (.int .i64)) (u3 : P.underlying f3.type = some (.int .u32)) (u4 : P.underlying f4.type = some (.slice e')) (u5 : P.underlying e' = some (.int .u8)) (u6 : P.cellsOf e' = 1)
    (h : DataW.trod enc P w base spare held fuel t [.slice a len cap] = some x) : ∃ F, IsSteps w a len F := by
  rcases DataW.trod_slice ht h with ⟨h0, _⟩ | ⟨a', len', cap', elems, rest, n, _, h0, _, hb, hl, hm, hlen, hel, _, _⟩
  · simp at h0
    exact ⟨fun _ => ⟨0, 0, 0, 0, none, 0, 0, fun _ => 0⟩, by omega, .inl h0.2.1⟩
  · simp at h0
    obtain ⟨rfl, rfl, rfl⟩ := h0
    by_cases hz : len = 0
    · exact ⟨fun _ => ⟨0, 0, 0, 0, none, 0, 0, fun _ => 0⟩, by omega, .inl hz⟩
    · obtain ⟨b, off, spot⟩ := a'
      have each : ∀ i, ∃ s : St, i < len → w.cell? ((⟨b, off, spot⟩ : Addr).add (i * 5)) = some (.int .i64 s.kind) ∧ w.cell? (((⟨b, off, spot⟩ : Addr).add (i * 5)).add 1) = some (.int .u32 s.addr) ∧ w.cell? (((⟨b, off, spot⟩ : Addr).add (i * 5)).add 2) = some (.int .i64 s.n) ∧ w.cell? (((⟨b, off, spot⟩ : Addr).add (i * 5)).add 3) = some (.int .u32 s.x) ∧ w.cell? (((⟨b, off, spot⟩ : Addr).add (i * 5)).add 4) = some (.slice s.sv s.sl s.sc) ∧ (Lit.int .u32 s.addr).wf = true ∧ (Lit.int .u32 s.x).wf = true ∧ SrcB w s := by
        intro i
        by_cases hi : i < len
        · have hy : elems[i]? = some (elems[i]'(by omega)) := List.getElem?_eq_getElem (by omega)
          have hb' := hel i hi
          rw [hy, hC, Option.bind_eq_some_iff] at hb'
          obtain ⟨cs', hcs, hy'⟩ := hb'
          obtain ⟨_, hl5, hcell⟩ := World.cells?_some hcs
          obtain ⟨c0, c1, c2, c3, c4, rfl⟩ := list5 hl5
          obtain ⟨xs, m, _, _, _, hxl, hg⟩ := DataW.trod_struct hs hy'
          simp at ho hc
          obtain ⟨o0, o1, o2, o3, o4⟩ := ho
          obtain ⟨q0, q1, q2, q3, q4⟩ := hc
          have g0 := hg 0 f0 rfl
          have g1 := hg 1 f1 rfl
          have g2 := hg 2 f2 rfl
          have g3 := hg 3 f3 rfl
          have g4 := hg 4 f4 rfl
          have k0 := hcell 0 (by decide)
          have k1 := hcell 1 (by decide)
          have k2 := hcell 2 (by decide)
          have k3 := hcell 3 (by decide)
          have k4 := hcell 4 (by decide)
          match xs, hxl with
          | [y0, y1, y2, y3, y4], _ =>
            simp [o0, q0] at g0
            simp [o1, q1] at g1
            simp [o2, q2] at g2
            simp [o3, q3] at g3
            simp [o4, q4] at g4
            obtain ⟨x0, e0, _, _⟩ := DataW.trod_int u0 g0
            obtain ⟨x1, e1, _, w1⟩ := DataW.trod_int u1 g1
            obtain ⟨x2, e2, _, _⟩ := DataW.trod_int u2 g2
            obtain ⟨x3, e3, _, w3⟩ := DataW.trod_int u3 g3
            obtain ⟨sv, sl, sc, f, e4, s1, s2, s3⟩ := open_bytes u4 u5 u6 g4
            simp at e0 e1 e2 e3
            subst e0 e1 e2 e3 e4
            refine ⟨⟨x0, x1, x2, x3, sv, sl, sc, f⟩, fun _ => ⟨?_, ?_, ?_, ?_, ?_, w1, w3, s1, s2, s3⟩⟩
            · rw [show (Addr.add (⟨b, off, spot⟩ : Addr) (i * 5)) = ((⟨b, off, spot⟩ : Addr).add (i * 5)).add 0 from by simp [Addr.add], k0]; rfl
            · rw [k1]; rfl
            · rw [k2]; rfl
            · rw [k3]; rfl
            · rw [k4]; rfl
        · exact ⟨⟨0, 0, 0, 0, none, 0, 0, fun _ => 0⟩, fun h => absurd h hi⟩
      obtain ⟨F, hF⟩ := Classical.skolem.1 each
      have hspot : spot = none := by
        have := World.cell?_spot (hF 0 (by omega)).1
        simpa [Addr.add] using this
      subst hspot
      refine ⟨F, by omega, .inr ⟨b, off, rfl, fun i hi => ?_⟩⟩
      obtain ⟨c0, c1, c2, c3, c4, w1, w3, hsrc⟩ := hF i hi
      simp only [add_plain] at c0 c1 c2 c3 c4
      have hb1 := bounds_u32 w1
      have hb3 := bounds_u32 w3
      exact ⟨⟨c0, c1, c2, c3, c4⟩, ⟨by omega, by omega, by omega, by omega⟩, hsrc⟩
end
end Go.Proofs.YtcigceaadkjenaaDoor

/- Layer 15: a slice of parts as an argument. -/
namespace Go.Proofs.YtcigceaadkjenaaDoor
open Go.ChangeShapes Go.WideShapes Go.ChangeAt Go.RowKit
set_option linter.unusedVariables false

/-- Parts as they came in. -/
def IsParts (w : World) (a : Option Addr) (len cap : Nat) (ps : List Prt) : Prop := ps.length = len ∧ len ≤ maxLen ∧ RdPs w (.slice a len cap) ps ∧ Fine ps ∧ ∀ p ∈ ps, p.2.length ≤ maxLen

theorem list2 {α : Type} {l : List α} (h : l.length = 2) : ∃ c0 c1, l = [c0, c1] := by
  match l, h with
  | [c0, c1], _ => exact ⟨c0, c1, rfl⟩

section
variable {H : Type} {enc : TypeId × Value → H} {P : Program} {w : World} {base : Nat} {spare : Nat → Bool} {held : Bool}

theorem open_parts {t e e' : TypeId} {f0 f1 : Field} {fuel : Nat} {a : Option Addr} {len cap : Nat} {x : DataW H × List MemPlace} (ht : P.underlying t = some (.slice e)) (hs : P.underlying e = some (.struct #[f0, f1]))
    (ho : #[f0, f1].map (·.offset) = #[0, 1]) (hc : #[f0, f1].map (fun f => P.cellsOf f.type) = #[1, 1]) (hC : P.cellsOf e = 2)
    (u0 : P.underlying f0.type = some (.int .u32)) (u4 : P.underlying f1.type = some (.slice e')) (u5 : P.underlying e' = some (.int .u8)) (u6 : P.cellsOf e' = 1)
    (h : DataW.trod enc P w base spare held fuel t [.slice a len cap] = some x) : ∃ ps, IsParts w a len cap ps := by
  rcases DataW.trod_slice ht h with ⟨h0, _⟩ | ⟨a', len', cap', elems, rest, n, _, h0, _, hb, hl, hm, hlen, hel, _, _⟩
  · simp at h0
    obtain ⟨rfl, rfl, rfl⟩ := h0
    exact ⟨[], rfl, by unfold maxLen; omega, ⟨none, 0, rfl, .inl rfl⟩, fun p hp => by simp at hp, fun p hp => by simp at hp⟩
  · simp at h0
    obtain ⟨rfl, rfl, rfl⟩ := h0
    by_cases hz : len = 0
    · subst hz
      exact ⟨[], rfl, by unfold maxLen; omega, ⟨_, _, rfl, .inl rfl⟩, fun p hp => by simp at hp, fun p hp => by simp at hp⟩
    · obtain ⟨b, off, spot⟩ := a'
      have each : ∀ i, ∃ p : Prt, i < len → w.cell? ((⟨b, off, spot⟩ : Addr).add (i * 2)) = some (.int .u32 p.1) ∧ (∃ sv sc, w.cell? (((⟨b, off, spot⟩ : Addr).add (i * 2)).add 1) = some (.slice sv p.2.length sc) ∧ RdB w (.slice sv p.2.length sc) p.2) ∧ (Lit.int .u32 p.1).wf = true ∧ p.2.length ≤ maxLen ∧ ∀ y ∈ p.2, 0 ≤ y ∧ y < 256 := by
        intro i
        by_cases hi : i < len
        · have hy : elems[i]? = some (elems[i]'(by omega)) := List.getElem?_eq_getElem (by omega)
          have hb' := hel i hi
          rw [hy, hC, Option.bind_eq_some_iff] at hb'
          obtain ⟨cs', hcs, hy'⟩ := hb'
          obtain ⟨_, hl5, hcell⟩ := World.cells?_some hcs
          obtain ⟨c0, c1, rfl⟩ := list2 hl5
          obtain ⟨xs, m, _, _, _, hxl, hg⟩ := DataW.trod_struct hs hy'
          simp at ho hc
          obtain ⟨o0, o1⟩ := ho
          obtain ⟨q0, q1⟩ := hc
          have g0 := hg 0 f0 rfl
          have g1 := hg 1 f1 rfl
          have k0 := hcell 0 (by decide)
          have k1 := hcell 1 (by decide)
          match xs, hxl with
          | [y0, y1], _ =>
            simp [o0, q0] at g0
            simp [o1, q1] at g1
            obtain ⟨x0, e0, _, w1⟩ := DataW.trod_int u0 g0
            obtain ⟨sv, sl, sc, f, e4, s1, s2, s3⟩ := open_bytes u4 u5 u6 g1
            simp at e0
            subst e0 e4
            have hln : ((List.range sl).map f).length = sl := by simp
            refine ⟨(x0, (List.range sl).map f), fun _ => ⟨?_, ⟨sv, sc, ?_, ?_⟩, w1, by rw [hln]; exact s2, ?_⟩⟩
            · rw [show (Addr.add (⟨b, off, spot⟩ : Addr) (i * 2)) = ((⟨b, off, spot⟩ : Addr).add (i * 2)).add 0 from by simp [Addr.add], k0]; rfl
            · rw [k1, hln]; rfl
            · refine ⟨sv, sc, rfl, by rw [hln]; exact s1, ?_⟩
              rcases s3 with rfl | ⟨b', o', rfl, hs3⟩
              · exact .inl rfl
              · refine .inr ⟨b', o', rfl, fun j hj => ?_⟩
                rw [hln] at hj
                rw [(hs3 j hj).1]
                simp [List.getD, hj]
            · intro y hy
              obtain ⟨j, hj, rfl⟩ := List.mem_map.1 hy
              have hj' := List.mem_range.1 hj
              rcases s3 with rfl | ⟨b', o', rfl, hs3⟩
              · omega
              · exact (hs3 j hj').2
        · exact ⟨(0, []), fun h => absurd h hi⟩
      obtain ⟨F, hF⟩ := Classical.skolem.1 each
      have hspot : spot = none := by
        have := World.cell?_spot (hF 0 (by omega)).1
        simpa [Addr.add] using this
      subst hspot
      have hat : ∀ i p, ((List.range len).map F)[i]? = some p → i < len ∧ F i = p := fun i p hp => by
        rcases Nat.lt_or_ge i len with h | h
        · simp [h] at hp; exact ⟨h, hp⟩
        · rw [List.getElem?_eq_none (by simpa using h)] at hp; cases hp
      have hmem : ∀ p ∈ (List.range len).map F, ∃ i, i < len ∧ F i = p := fun p hp => by
        obtain ⟨i, hi, e⟩ := List.mem_map.1 hp
        exact ⟨i, List.mem_range.1 hi, e⟩
      refine ⟨(List.range len).map F, by simp, by omega, ⟨some ⟨b, off, none⟩, cap, by simp, .inr ⟨b, off, rfl, fun i p hp => ?_⟩⟩, fun p hp => ?_, fun p hp => ?_⟩
      · obtain ⟨hi, rfl⟩ := hat i p hp
        obtain ⟨c0, ⟨sv, sc, c1, hr⟩, _⟩ := hF i hi
        simp only [add_plain] at c0 c1
        exact ⟨c0, sv, sc, c1, hr⟩
      · obtain ⟨i, hi, rfl⟩ := hmem p hp
        obtain ⟨_, _, w1, _, hy⟩ := hF i hi
        have := bounds_u32 w1
        exact ⟨by omega, by omega, hy⟩
      · obtain ⟨i, hi, rfl⟩ := hmem p hp
        exact (hF i hi).2.2.2.1
end
end Go.Proofs.YtcigceaadkjenaaDoor
