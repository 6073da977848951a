/- Layer 5: disasm's Text, Word and Lines answer what the laws' walks ask of them. -/
import Derived.Test.YtakomdopeadcjaaDoorDisRight
import Derived.Test.YtakomdopeadcjaaDoorDecPut
import Derived.Test.YtakomdopeadcjaaDoorDisTextAll
import Derived.Lib.Builder
namespace Go.Proofs.YtakomdopeadcjaaDoor
open Go.RowKit Go.Sort
set_option linter.unusedVariables false

theorem numP : NumP := number_any
theorem regP : RegP := register_any

set_option maxRecDepth 100000 in
set_option maxHeartbeats 1000000 in
theorem textP : TextP := by
  intro op rd rs1 rs2 imm csr w i0 i1 tf tn tp htx
  obtain ⟨k, rfl, hkk, hk, hk0, hr⟩ := txB_t htx
  rw [hkk]
  have HF : Hid (FormTab w) := tf
  have HN : Hid (NameTab w) := tn
  have HK : Hid (PowTab w) := tp
  have HI0 : Hid (0 ≤ imm) := i0
  have HI1 : Hid (imm < 4294967296) := i1
  have HKL : Hid (k < 58) := hk
  have HK0 : Hid (k ≠ 0) := hk0
  have HR : Hid (rightOf (formZ k) rd rs1 rs2 imm csr = true) := hr
  have hn := tneb hk0
  clear tf tn tp i0 i1 hk hk0 hr htx hkk
  have HS : Hid (SixT (w.alloc (.cells #[.int .i64 k, .int .i64 rd, .int .i64 rs1, .int .i64 rs2, .int .u32 imm, .int .i64 csr] 27)) w.heap.size k rd rs1 rs2 imm csr) := sixT_new w _ rfl _ _ _ _ _ _ _
  have hW : Hid (Below w.heap.size w (w.alloc (.cells #[.int .i64 k, .int .i64 rd, .int .i64 rs1, .int .i64 rs2, .int .u32 imm, .int .i64 csr] 27))) := (Below.refl _ _).alloc (Nat.le_refl _) _
  go_enter Tryd.func12, Tryd.ntmps12
  go_wp2_with fail
  generalize w.alloc (.cells #[.int .i64 k, .int .i64 rd, .int .i64 rs1, .int .i64 rs2, .int .u32 imm, .int .i64 csr] 27) = W at *
  refine (iright_yes k rd rs1 rs2 imm csr _ HKL.out HI0.out HI1.out (FormTab.below HF.out hW.out)).mono ?_
  rw [HR.out]
  rintro e w1 ⟨rfl, hb⟩
  have HB := below_step hW hb
  have HSn := six_step HS hb
  obtain ⟨c0, c1, c2, c3, c4, c5⟩ := HSn.out
  clear hb
  go_wp2_with fail
  refine (rightText_any k rd rs1 rs2 imm csr _ HKL.out HK0.out HI0.out HI1.out (FormTab.below HF.out HB.out) (NameTab.below HN.out HB.out) (powTab_below HK.out HB.out) HR.out).mono ?_
  rintro e w2 ⟨rfl, hb⟩
  have HB2 := below_step HB hb
  go_wp2
  go_ret2
  exact ⟨rfl, HB2.out⟩

set_option maxRecDepth 100000 in
set_option maxHeartbeats 1000000 in
theorem textQ : TextQ := by
  intro op rd rs1 rs2 imm csr w i0 i1 tf tn tp htx
  by_cases h0 : op = 0
  · subst h0
    clear htx tf tn tp i0 i1
    go_enter Tryd.func12, Tryd.ntmps12
    go_wp2
    go_ret2
    exact ⟨rfl, (Below.refl _ _).alloc (Nat.le_refl _) _⟩
  · have hn : (op == 0) = false := by simpa using h0
    rcases txB_f htx with hf | ⟨k, rfl, hk, hk0, hr⟩
    · have ho : opB op = false := opB_f (by omega)
      clear htx tf tn tp i0 i1 hf h0
      go_enter Tryd.func12, Tryd.ntmps12
      go_wp2_with fail
      refine (iright_no op rd rs1 rs2 imm csr _ ho).mono ?_
      rintro e w1 ⟨rfl, hb⟩
      go_wp2
      go_ret2
      refine ⟨rfl, ((Below.refl _ _).alloc (Nat.le_refl _) _).trans (hb.mono ?_)⟩
      simp
    · have HF : Hid (FormTab w) := tf
      have HI0 : Hid (0 ≤ imm) := i0
      have HI1 : Hid (imm < 4294967296) := i1
      have HKL : Hid (k < 58) := hk
      have HR : Hid (rightOf (formZ k) rd rs1 rs2 imm csr = false) := hr
      clear htx tf tn tp i0 i1 h0 hk hk0 hr
      go_enter Tryd.func12, Tryd.ntmps12
      go_wp2_with fail
      refine (iright_yes k rd rs1 rs2 imm csr _ HKL.out HI0.out HI1.out (FormTab.below HF.out ((Below.refl _ _).alloc (Nat.le_refl _) _))).mono ?_
      rw [HR.out]
      rintro e w1 ⟨rfl, hb⟩
      go_wp2
      go_ret2
      refine ⟨rfl, ((Below.refl _ _).alloc (Nat.le_refl _) _).trans (hb.mono ?_)⟩
      simp

set_option maxRecDepth 100000 in
set_option maxHeartbeats 1000000 in
theorem wordP : WordP := by
  intro x w x0 x1 tf tn tp tm
  have HF : Hid (FormTab w) := tf
  have HN : Hid (NameTab w) := tn
  have HK : Hid (PowTab w) := tp
  have HM : Hid (MatchTab w) := tm
  clear tf tn tp tm
  have hi := immOf_bd x (formZ (kindOf x))
  have hk := kind_txB x
  have hI : insV x = .agg #[.int .i64 (kindOf x), .int .i64 (fldRd x (formZ (kindOf x))), .int .i64 (fldRs1 x (formZ (kindOf x))), .int .i64 (fldRs2 x (formZ (kindOf x))), .int .u32 (immOf x (formZ (kindOf x))), .int .i64 (fldCsr x (formZ (kindOf x)))] := rfl
  by_cases hz : kindOf x = 0
  · have HW : Hid (wordL x = [46, 119, 111, 114, 100] ++ 32 :: numL x) := by
      show wordL x = _
      unfold wordL
      rw [if_pos hz]; rfl
    rw [decide_eq_false (by simpa using hz)] at hk
    have HKX : Hid _ := hk
    have HI : Hid _ := hI
    have HB : Hid _ := hi
    have HX0 : Hid (0 ≤ x) := x0
    have HX1 : Hid (x < 4294967296) := x1
    clear hk hI hi hz x0 x1
    generalize (kindOf x : Int) = op at *
    generalize fldRd x (formZ (kindOf x)) = rd at *
    generalize fldRs1 x (formZ (kindOf x)) = rs1 at *
    generalize fldRs2 x (formZ (kindOf x)) = rs2 at *
    generalize immOf x (formZ (kindOf x)) = imm at *
    generalize fldCsr x (formZ (kindOf x)) = csr at *
    go_enter Tryd.func15, Tryd.ntmps15
    go_wp2_with fail
    refine (decode_any x _ HX0.out HX1.out HF.out HM.out).mono ?_
    rintro e w1 ⟨rfl, hb1⟩
    rw [HI.out]
    have HB1 : Hid (Below w.heap.size w w1) := hb1
    clear hb1
    go_wp2_with fail
    refine (textQ op rd rs1 rs2 imm csr _ HB.out.1 HB.out.2 (FormTab.below HF.out HB1.out) (NameTab.below HN.out HB1.out) (powTab_below HK.out HB1.out) HKX.out).mono ?_
    rintro e w2 ⟨rfl, hb2⟩
    have HB2 := below_step HB1 hb2
    clear hb2
    go_wp2_with fail
    refine (unsigned_any x _ HX0.out HX1.out (powTab_below HK.out HB2.out)).mono ?_
    rintro e w3 ⟨rfl, hb3⟩
    have HB3 := below_step HB2 hb3
    clear hb3
    go_wp2_with fail
    refine (show Calls Tryd.prog 27 #[.string ⟨#[46, 119, 111, 114, 100]⟩, .slice (some ⟨w3.heap.size, 0, none⟩) 1 1] _ _ from line1 [46, 119, 111, 114, 100] (numL x) w3.heap.size _ (by decide) (num_lens x).1 (by simp)).mono ?_
    rintro e w4 ⟨rfl, hb4⟩
    go_wp2
    go_ret
    rw [HW.out]
    exact ⟨rfl, below_al HB3 hb4⟩
  · have HW : Hid (bs (wordL x) = bs (textL (kindOf x : Int).toNat (fldRd x (formZ (kindOf x))) (fldRs1 x (formZ (kindOf x))) (fldRs2 x (formZ (kindOf x))) (immOf x (formZ (kindOf x))) (fldCsr x (formZ (kindOf x))))) := by
      show bs (wordL x) = _
      unfold wordL
      rw [if_neg hz, Int.toNat_natCast]
    rw [decide_eq_true hz] at hk
    have HKX : Hid _ := hk
    have HI : Hid _ := hI
    have HB : Hid _ := hi
    have HX0 : Hid (0 ≤ x) := x0
    have HX1 : Hid (x < 4294967296) := x1
    clear hk hI hi hz x0 x1
    generalize (kindOf x : Int) = op at *
    generalize fldRd x (formZ (kindOf x)) = rd at *
    generalize fldRs1 x (formZ (kindOf x)) = rs1 at *
    generalize fldRs2 x (formZ (kindOf x)) = rs2 at *
    generalize immOf x (formZ (kindOf x)) = imm at *
    generalize fldCsr x (formZ (kindOf x)) = csr at *
    go_enter Tryd.func15, Tryd.ntmps15
    go_wp2_with fail
    refine (decode_any x _ HX0.out HX1.out HF.out HM.out).mono ?_
    rintro e w1 ⟨rfl, hb1⟩
    rw [HI.out]
    have HB1 : Hid (Below w.heap.size w w1) := hb1
    clear hb1
    go_wp2_with fail
    refine (textP op rd rs1 rs2 imm csr _ HB.out.1 HB.out.2 (FormTab.below HF.out HB1.out) (NameTab.below HN.out HB1.out) (powTab_below HK.out HB1.out) HKX.out).mono ?_
    rintro e w2 ⟨rfl, hb2⟩
    have HB2 := below_step HB1 hb2
    clear hb2
    go_wp2
    go_ret
    rw [HW.out]
    exact ⟨rfl, HB2.out⟩

theorem bown_on {w w' : World} {base : Nat} {e : TypeId} {size : Nat} {v : Value} {n : Nat} {xs : List Value} (h : w.ownsRow base e size v n xs) (hb : Below w.heap.size w w') : w'.ownsRow base e size v n xs := by
  refine ⟨h.1, ?_⟩
  rcases h.2 with hn | ⟨g, cap, cur, hv, hbs, hg, rest⟩
  · exact .inl hn
  · have hlt : g < w.heap.size := by
      refine Nat.lt_of_not_le fun hn => ?_
      rw [Array.getElem?_eq_none hn] at hg; cases hg
    exact .inr ⟨g, cap, cur, hv, hbs, by rw [hb.block g hlt]; exact hg, rest⟩
theorem builderAt_on {T e : TypeId} {B b : Nat} {p : Value} {xs : List Value} {w w' : World} (h : Lib.BuilderAt T e B b p xs w) (hb : Below w.heap.size w w') : Lib.BuilderAt T e B b p xs w' := by
  obtain ⟨h1, v, h2, h3, h4⟩ := h
  have hlt : b < w.heap.size := by
    refine Nat.lt_of_not_le fun hn => ?_
    rw [Array.getElem?_eq_none hn] at h2; cases h2
  exact ⟨h1, v, by rw [hb.block b hlt]; exact h2, bown_on h3 hb, h4⟩
theorem isBuilder_on {T e : TypeId} {B b : Nat} {xs : List Value} {w w' : World} (h : Lib.IsBuilder T e B b xs w) (hb : Below w.heap.size w w') : Lib.IsBuilder T e B b xs w' :=
  h.elim (fun h => .inl (builderAt_on h hb)) (fun h => .inr (builderAt_on h hb))
theorem bstring_any (B b : Nat) (l : List UInt8) (w : World) (h : Lib.IsBuilder 51 5 B b (Lib.byteCells l) w) (hBw : B ≤ w.heap.size) :
    Calls Tryd.prog 31 #[.pointer (some ⟨b, 0, none⟩)] w fun e w' => e = .returned (.string (bs l)) ∧ Below B w w' := Any.Builder_String_any lays169 Builder_Extra_169 B b l w h hBw
theorem bwrite_any (B b : Nat) (l s : List UInt8) (w : World) (h : Lib.IsBuilder 51 5 B b (Lib.byteCells l) w) (hlen : l.length + s.length ≤ 140737488355328) (hBw : B ≤ w.heap.size) :
    Calls Tryd.prog 29 #[.pointer (some ⟨b, 0, none⟩), .string (bs s)] w fun e w' => e = .returned (.tuple #[.int .i64 (bs s).size, .nilIface]) ∧ Lib.IsBuilder 51 5 B b (Lib.byteCells (l ++ s)) w' ∧ Below B w w' := by
  refine (show Calls Tryd.prog 29 #[.pointer (some ⟨b, 0, none⟩), .string (bs s)] w _ from Any.Builder_WriteString lays166 Builder_Extra_156 B b (Lib.byteCells l) (bs s) w h (by rw [Lib.byteCells_length, bs_size]; exact hlen) hBw).mono ?_
  rintro e w' ⟨rfl, hB, hb⟩
  refine ⟨rfl, .inr ?_, hb⟩
  rw [Lib.byteCells_append]; exact hB
theorem bbyte_any (B b : Nat) (l : List UInt8) (w : World) (h : Lib.IsBuilder 51 5 B b (Lib.byteCells l) w) (hlen : l.length + 1 ≤ 140737488355328) (hBw : B ≤ w.heap.size) :
    Calls Tryd.prog 30 #[.pointer (some ⟨b, 0, none⟩), .int .u8 10] w fun e w' => e = .returned .nilIface ∧ Lib.IsBuilder 51 5 B b (Lib.byteCells (l ++ [10])) w' ∧ Below B w w' := by
  refine (show Calls Tryd.prog 30 #[.pointer (some ⟨b, 0, none⟩), .int .u8 10] w _ from Any.Builder_WriteByte lays167 Builder_Extra_156 B b (Lib.byteCells l) 10 w h (by rw [Lib.byteCells_length]; exact hlen) hBw).mono ?_
  rintro e w' ⟨rfl, hB, hb⟩
  refine ⟨rfl, .inr ?_, hb⟩
  rw [Lib.byteCells_append]; exact hB

set_option maxRecDepth 100000 in
set_option maxHeartbeats 2000000 in
theorem linesP : LinesP := by
  intro f a len cap w hn hc tf tn tp tm
  have HF : Hid (FormTab w) := tf
  have HN : Hid (NameTab w) := tn
  have HK : Hid (PowTab w) := tp
  have HM : Hid (MatchTab w) := tm
  have HC : Hid (IsWords w a len f) := hc
  have hfr := Lib.fresh_isBuilder 51 5 w
  have hb0 : Below w.heap.size w (w.alloc (.cells #[.pointer none, .slice none 0 0] 51)) := (Below.refl _ _).alloc (Nat.le_refl _) _
  have HFR := Lib.hid hfr
  have HB0 := Lib.hid hb0
  clear tf tn tp tm hc hfr hb0
  go_enter Tryd.func16, Tryd.ntmps16
  go_wp2
  go_loopw [8] (fun i wr => ∃ k : Nat, k ≤ len ∧ i = .int .i64 k ∧ Lib.IsBuilder 51 5 w.heap.size w.heap.size (Lib.byteCells (linesL f k)) wr ∧ Below w.heap.size w wr) (fun i _ => len - (intOf i).toNat)
  case atStart => exact ⟨0, Nat.zero_le _, rfl, HFR.out, HB0.out⟩
  case round =>
    obtain ⟨k, hk, rfl, hI, hb⟩ := hrel
    have HI := Lib.hid hI
    have HB : Hid (Below w.heap.size w wr) := hb
    by_cases hlt : k < len
    · obtain ⟨b, off, ha, hcell, x0, x1⟩ := (IsWords.on HC.out hb).at hlt
      have HLN : Hid (linesL f (k + 1) = linesL f k ++ (wordL (f k) ++ [10])) := rfl
      have hl1 := lines_len f k
      have hl2 := word_len (f k)
      have HL1 : Hid ((linesL f k).length ≤ 44500) := Nat.le_trans hl1 (by omega)
      have HL2 : Hid ((wordL (f k)).length ≤ 88) := hl2
      have HX0 : Hid (0 ≤ f k) := x0
      have HX1 : Hid (f k < 4294967296) := x1
      clear hI hb x0 x1 hl1 hl2
      generalize f k = x at *
      subst ha
      go_wp2_with fail
      refine (wordP x _ HX0.out HX1.out (FormTab.below HF.out HB.out) (NameTab.below HN.out HB.out) (powTab_below HK.out HB.out) (MatchTab.below HM.out HB.out)).mono ?_
      rintro e w1 ⟨rfl, h1⟩
      have HI1 := Lib.hid (isBuilder_on HI.out h1)
      have HB1 := below_step HB h1
      clear h1
      go_wp2_with fail
      refine (bwrite_any w.heap.size w.heap.size _ _ _ HI1.out (by have := HL1.out; have := HL2.out; omega) HB1.out.size).mono ?_
      rintro e w2 ⟨rfl, hI2, h2⟩
      have HI2 := Lib.hid hI2
      have HB2 : Hid (Below w.heap.size w w2) := HB1.out.trans h2
      clear hI2 h2
      go_wp2_with fail
      refine (bbyte_any w.heap.size w.heap.size _ _ HI2.out (by have := HL1.out; have := HL2.out; simp only [List.length_append]; omega) HB2.out.size).mono ?_
      rintro e w3 ⟨rfl, hI3, h3⟩
      have HB3 : Hid (Below w.heap.size w w3) := HB2.out.trans h3
      rw [List.append_assoc, ← HLN.out] at hI3
      have HI3 := Lib.hid hI3
      clear hI3 h3
      go_wp2
      go_roundw
      case rel => exact ⟨k + 1, by omega, by go_num, HI3.out, HB3.out⟩
      case measure => simp [intOf]; omega
    · obtain rfl : k = len := by omega
      clear hI hb
      go_wp2_with fail
      refine (bstring_any w.heap.size w.heap.size _ _ HI.out HB.out.size).mono ?_
      rintro e w1 ⟨rfl, h1⟩
      go_wp2
      go_ret
      exact ⟨rfl, HB.out.trans h1⟩
end Go.Proofs.YtakomdopeadcjaaDoor
