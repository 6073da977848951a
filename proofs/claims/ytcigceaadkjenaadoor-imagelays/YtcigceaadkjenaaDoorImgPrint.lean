/- Layer 15: Print: a line for each part. -/
import Derived.Test.YtcigceaadkjenaaDoorImgBuild
import Derived.Test.YtcigceaadkjenaaDoorImgRd
namespace Go.Proofs.YtcigceaadkjenaaDoor
open Go.RowKit Go.Shelf
set_option linter.unusedVariables false
set_option maxRecDepth 100000

/-- The eight digits of a word, as signs. -/
def hexL (x : Int) : List UInt8 := (hexTo x 8).map fun d => UInt8.ofNat d.toNat
theorem hexL_len (x : Int) : (hexL x).length = 8 := by simp [hexL, hexTo_len]
theorem hexL_str (x : Int) : strOfNums (hexTo x 8) = bs (hexL x) := by
  apply ByteArray.ext
  simp [strOfNums, bs, hexL]
/-- A byte's two digits. -/
def byteL (b : Int) : List UInt8 := (hexL b).drop 6
theorem byteL_len (b : Int) : (byteL b).length = 2 := by simp [byteL, hexL_len]
def bytesL (l : List Int) : List UInt8 := l.flatMap fun b => 32 :: byteL b
/-- A part's line. -/
def partL (p : Prt) : List UInt8 := 64 :: hexL p.1 ++ bytesL p.2 ++ [10]
/-- A text of parts. -/
def printL (ps : List Prt) : List UInt8 := ps.flatMap partL

theorem bytesL_len (l : List Int) : (bytesL l).length = 3 * l.length := by
  induction l with
  | nil => rfl
  | cons b l ih =>
    have e : bytesL (b :: l) = 32 :: byteL b ++ bytesL l := rfl
    rw [e, List.length_append, ih]
    simp [byteL_len]
    omega
theorem bytesL_take (l : List Int) (k : Nat) (b : Int) (h : l[k]? = some b) : bytesL (l.take (k + 1)) = bytesL (l.take k) ++ [32] ++ byteL b := by
  unfold bytesL
  rw [List.take_add_one, h, List.flatMap_append]
  simp
theorem printL_take (ps : List Prt) (k : Nat) (p : Prt) (h : ps[k]? = some p) : printL (ps.take (k + 1)) = printL (ps.take k) ++ partL p := by
  unfold printL
  rw [List.take_add_one, h, List.flatMap_append]
  simp
theorem bytesL_le (l : List Int) (k : Nat) : (bytesL (l.take k)).length ≤ (bytesL l).length := by
  conv => rhs; rw [← List.take_append_drop k l]
  unfold bytesL
  rw [List.flatMap_append, List.length_append]; omega
theorem printL_le (ps : List Prt) (k : Nat) : (printL (ps.take k)).length ≤ (printL ps).length := by
  conv => rhs; rw [← List.take_append_drop k ps]
  unfold printL
  rw [List.flatMap_append, List.length_append]; omega

theorem isb_on {T e : TypeId} {B b : Nat} {xs : List Value} {w w' : World} (h : Lib.IsBuilder T e B b xs w) (hb : Below w.heap.size w w') : Lib.IsBuilder T e B b xs w' := by
  have one : ∀ {p : Value}, Lib.BuilderAt T e B b p xs w → Lib.BuilderAt T e B b p xs w' := fun {p} h => by
    have hlt := h.lt
    obtain ⟨h1, v, h2, h3, h4⟩ := h
    refine ⟨h1, v, (hb.block b hlt).trans h2, h3.kept ⟨hb.os, hb.tape, hb.output, hb.size, fun k hk _ => hb.block k hk⟩ (row := none) ?_, h4⟩
    cases v.ownBlock <;> simp
  rcases h with h | h
  · exact .inl (one h)
  · exact .inr (one h)

/-- The bytes of parts are bytes, their addresses words. -/
def Fine (ps : List Prt) : Prop := ∀ p ∈ ps, 0 ≤ p.1 ∧ p.1 < 4294967296 ∧ ∀ b ∈ p.2, 0 ≤ b ∧ b < 256

set_option maxHeartbeats 400000 in
theorem hexByte_any (b : Int) (w : World) (h0 : 0 ≤ b) (h1 : b < 256) :
    Calls Tryd.prog 42 #[.int .u8 b] w fun e w' => e = .returned (.string (bs (byteL b))) ∧ Below w.heap.size w w' := by
  have HX : Hid (∀ V : World, Calls Tryd.prog 40 #[.int .u32 b] V fun e w' => e = .returned (.string (bs (hexL b))) ∧ Below V.heap.size V w') := fun V => by
    have := hex_any b V h0 (by omega)
    rwa [hexL_str] at this
  have hs : (bs (hexL b)).size = 8 := by rw [bs_size, hexL_len]
  have hx : (bs (hexL b)).extract 6 8 = bs (byteL b) := by rw [bs_cut, List.take_of_length_le (by simp [hexL_len])]; rfl
  go_enter Tryd.func42, Tryd.ntmps42
  go_wp2_with (go_at_call 40; refine (HX.out _).mono ?_; rintro e w1 ⟨rfl, hb1⟩)
  go_ret
  exact ⟨rfl, hb1⟩

set_option maxHeartbeats 2000000 in
theorem print_any (v : Value) (ps : List Prt) (w : World) (h : RdPs w v ps) (hf : Fine ps) (hlen : (printL ps).length ≤ 1000000000) (hn : ps.length ≤ 1000000) :
    Calls Tryd.prog 21 #[v] w fun e w' => e = .returned (.string (bs (printL ps))) ∧ Below w.heap.size w w' := by
  obtain ⟨a, c, rfl, h⟩ := h
  have hfr : HoldsL w.heap.size w.heap.size [] (w.alloc (.cells #[.pointer none, .slice none 0 0] 82)) := Lib.fresh_isBuilder tySB 5 w
  go_enter Tryd.func21, Tryd.ntmps21
  go_wp2
  go_loopw [10] (fun i wr => ∃ k : Nat, k ≤ ps.length ∧ i = .int .i64 (k : Int) ∧ Hid (HoldsL w.heap.size w.heap.size (printL (ps.take k)) wr) ∧ Hid (Below w.heap.size w wr)) (fun i _ => ps.length - (intOf i).toNat)
  case atStart => exact ⟨0, Nat.zero_le _, rfl, hfr, (Below.refl _ w).alloc (Nat.le_refl _) _⟩
  case round =>
    obtain ⟨k, hk, rfl, HH, HB⟩ := hrel
    by_cases hlt : k < ps.length
    · rcases h with h | ⟨b, o, rfl, hi⟩
      · subst h; simp at hlt
      · obtain ⟨p, hp⟩ : ∃ p, ps[k]? = some p := ⟨_, List.getElem?_eq_getElem hlt⟩
        have hpt := printL_take ps k p hp
        have hpl := printL_le ps (k + 1)
        rw [hpt, List.length_append] at hpl
        obtain ⟨f0, f1, f2⟩ := hf p (List.mem_of_getElem? hp)
        have hrp := hi k p hp
        obtain ⟨-, ax, cx, hcx, hbx⟩ := id hrp
        obtain ⟨c0, a1, cp, c1, -⟩ := (hrp.on (HB.out.mono (Nat.le_refl _)))
        obtain ⟨rfl, rfl⟩ : ax = a1 ∧ cx = cp := by
          have := (HB.out.cell (World.block_lt_of_cell? w _ hcx)).trans hcx
          rw [c1] at this
          cases this
          exact ⟨rfl, rfl⟩
        obtain ⟨p1, p2⟩ := p
        have HBY : Hid (p2 = [] ∨ ∃ bb oo, ax = some ⟨bb, oo, none⟩ ∧ ∀ i, i < p2.length → w.cell? ⟨bb, oo + i, none⟩ = some (.int .u8 (p2.getD i 0))) := by
          obtain ⟨a', c', e, _, h⟩ := hbx
          cases e
          exact h
        clear hbx hcx
        have HI := Lib.hid hi
        have HF := Lib.hid f2
        clear hi hrp hf f2
        replace hpl : (printL (ps.take k)).length + (1 + 8 + (bytesL p2).length + 1) ≤ (printL ps).length := by
          have : (partL (p1, p2)).length = 1 + 8 + (bytesL p2).length + 1 := by simp [partL, hexL_len]; omega
          omega
        have hpart : partL (p1, p2) = [64] ++ hexL p1 ++ bytesL p2 ++ [10] := rfl
        have HPT := Lib.hid (hpt.trans (by rw [hpart] : _ = printL (ps.take k) ++ ([64] ++ hexL p1 ++ bytesL p2 ++ [10])))
        clear hpt hpart
        have hp2 : p2.length ≤ 1000000000 := by rw [bytesL_len] at hpl; omega
        generalize printL (ps.take k) = acc at *
        have hMB : w.heap.size < wr.heap.size := by
          obtain ⟨q, hq⟩ : ∃ q, Lib.BuilderAt tySB 5 w.heap.size w.heap.size q (Lib.byteCells acc) wr := by
            rcases HH.out with h | h
            · exact ⟨_, h⟩
            · exact ⟨_, h⟩
          exact hq.lt
        obtain ⟨W1, hW1⟩ : ∃ W1, wr.alloc (.cells #[.int .u32 p1, .slice ax p2.length cx] 51) = W1 := ⟨_, rfl⟩
        have hh1 : W1.heap[wr.heap.size]? = some (.cells #[.int .u32 p1, .slice ax p2.length cx] 51 (0, 0)) := by rw [← hW1]; exact World.alloc_heap_new wr _
        have hH1 : HoldsL w.heap.size w.heap.size acc W1 := by rw [← hW1]; exact isb_on HH.out ((Below.refl _ wr).alloc (Nat.le_refl _) _)
        have hB1 : Below w.heap.size w W1 := by rw [← hW1]; exact HB.out.alloc (by omega) _
        have cellsM : ∀ {V : World}, V.heap[wr.heap.size]? = some (.cells #[.int .u32 p1, .slice ax p2.length cx] 51 (0, 0)) → V.cell? ⟨wr.heap.size, 0, none⟩ = some (.int .u32 p1) ∧ V.cell? ⟨wr.heap.size, 1, none⟩ = some (.slice ax p2.length cx) := fun hV => by simp [World.cell?, hV]
        have keepM : ∀ {V V' : World}, V.heap[wr.heap.size]? = some (.cells #[.int .u32 p1, .slice ax p2.length cx] 51 (0, 0)) → Lib.OthersKept 5 (some w.heap.size) V V' → V'.heap[wr.heap.size]? = some (.cells #[.int .u32 p1, .slice ax p2.length cx] 51 (0, 0)) := fun hV hk => hk _ _ hV (fun e => by have := Option.some.inj e; omega) (fun c fz e => by cases e)
        have HW1 := Lib.hid (ibwrite_any w.heap.size w.heap.size acc [64] W1 hH1 (by simp; omega) hB1.size)
        have HHX : Hid (∀ V : World, Calls Tryd.prog 40 #[.int .u32 p1] V fun e w' => e = .returned (.string (bs (hexL p1))) ∧ Below V.heap.size V w') := fun V => by
          have := hex_any p1 V f0 f1
          rwa [hexL_str] at this
        go_wp2_with (first
          | (go_at_call 39; refine HW1.out.mono ?_; rintro e W2 ⟨rfl, hH2, hB2, hk2⟩; clear HW1; have hh2 := keepM hh1 hk2; obtain ⟨cM0, cM1⟩ := cellsM hh2; have hB12 : Below w.heap.size w W2 := hB1.trans hB2)
          | (go_at_call 40; refine (HHX.out _).mono ?_; rintro e W3 ⟨rfl, hb3⟩; have hh3 := (hb3.block _ (Array.getElem?_eq_some_iff.1 hh2).1).trans hh2; have hB13 : Below w.heap.size w W3 := hB12.trans (hb3.mono hB12.size); have HW3 := Lib.hid (ibwrite_any w.heap.size w.heap.size (acc ++ [64]) (hexL p1) W3 (isb_on hH2 hb3) (by simp [hexL_len]; omega) hB13.size); clear hH2 hB2 hk2 cM0 cM1 hb3)
          | (go_at_call 39; refine HW3.out.mono ?_; rintro e W4 ⟨rfl, hH4, hB4, hk4⟩; have hh4 := keepM hh3 hk4; obtain ⟨cM2, cM3⟩ := cellsM hh4; have hB14 : Below w.heap.size w W4 := hB13.trans hB4; clear HW3 hh3 hk4 hB4))
        go_loopw [22] (fun i wr' => ∃ j : Nat, j ≤ p2.length ∧ i = .int .i64 (j : Int) ∧ Hid (HoldsL w.heap.size w.heap.size (acc ++ [64] ++ hexL p1 ++ bytesL (p2.take j)) wr') ∧ Hid (Below w.heap.size w wr')) (fun i _ => p2.length - (intOf i).toNat)
        case atStart => exact ⟨0, Nat.zero_le _, rfl, (by simpa [bytesL] using hH4 : HoldsL _ _ _ _), hB14⟩
        case round =>
          obtain ⟨j, hj, rfl, HH5, HB5⟩ := hrel
          by_cases hjl : j < p2.length
          · rcases HBY.out with hnil | ⟨bb, oo, rfl, hcell⟩
            · rw [hnil] at hjl; simp at hjl
            · have hcj := hcell j hjl
              have cb : wr.cell? ⟨bb, oo + j, none⟩ = some (.int .u8 (p2.getD j 0)) := (HB5.out.cell (World.block_lt_of_cell? w _ hcj)).trans hcj
              obtain ⟨y, hy⟩ : ∃ y, p2.getD j 0 = y := ⟨_, rfl⟩
              have hyj : p2[j]? = some y := by rw [← hy]; simp [List.getD, hjl]
              rw [hy] at cb
              obtain ⟨y0, y1⟩ := HF.out y (List.mem_of_getElem? hyj)
              have hbt := bytesL_take p2 j y hyj
              have hbl := bytesL_le p2 (j + 1)
              rw [hbt, List.length_append, List.length_append, byteL_len] at hbl
              simp only [List.length_cons, List.length_nil] at hbl
              have HBT := Lib.hid hbt
              clear hbt hcell hcj hy hyj HBY
              generalize bytesL (p2.take j) = bj at *
              have hs5 := HB5.out.size
              have HW5 := Lib.hid (ibbyte_any w.heap.size w.heap.size (acc ++ [64] ++ hexL p1 ++ bj) 32 wr HH5.out (by simp [hexL_len]; omega) hs5)
              have HHB : Hid (∀ V : World, Calls Tryd.prog 42 #[.int .u8 y] V fun e w' => e = .returned (.string (bs (byteL y))) ∧ Below V.heap.size V w') := fun V => hexByte_any y V y0 y1
              clear cM2 cM3 hH4
              go_wp2_with (first
                | (go_at_call 41; refine HW5.out.mono ?_; rintro e W6 ⟨rfl, hH6, hB6, hk6⟩; clear HW5; have hB16 : Below w.heap.size w W6 := HB5.out.trans hB6)
                | (go_at_call 42; refine (HHB.out _).mono ?_; rintro e W7 ⟨rfl, hb7⟩; have hB17 : Below w.heap.size w W7 := hB16.trans (hb7.mono hB16.size); have HW7 := Lib.hid (ibwrite_any w.heap.size w.heap.size (acc ++ [64] ++ hexL p1 ++ bj ++ [32]) (byteL y) W7 (isb_on hH6 hb7) (by simp [hexL_len, byteL_len]; omega) hB17.size); clear hH6 hB6 hk6 hb7)
                | (go_at_call 39; refine HW7.out.mono ?_; rintro e W8 ⟨rfl, hH8, hB8, hk8⟩; have hB18 : Below w.heap.size w W8 := hB17.trans hB8; clear HW7 hk8 hB8))
              go_roundw
              case rel =>
                refine ⟨j + 1, by omega, by go_num, ?_, hB18⟩
                rw [HBT.out]
                have e : acc ++ [64] ++ hexL p1 ++ bj ++ [32] ++ byteL y = acc ++ [64] ++ hexL p1 ++ (bj ++ [32] ++ byteL y) := by simp
                rw [e] at hH8
                exact hH8
              case measure => simp [intOf]; omega
          · obtain rfl : j = p2.length := by omega
            rw [List.take_length] at HH5
            have hs5 := HB5.out.size
            have HW5 := Lib.hid (ibwrite_any w.heap.size w.heap.size (acc ++ [64] ++ hexL p1 ++ bytesL p2) [10] wr HH5.out (by simp [hexL_len]; omega) hs5)
            clear cM2 cM3 hH4
            go_wp2_with (go_at_call 39; refine HW5.out.mono ?_; rintro e W6 ⟨rfl, hH6, hB6, hk6⟩; clear HW5; have hB16 : Below w.heap.size w W6 := HB5.out.trans hB6)
            go_roundw
            case rel =>
              refine ⟨k + 1, by omega, by go_num, ?_, hB16⟩
              rw [HPT.out]
              have e : acc ++ [64] ++ hexL p1 ++ bytesL p2 ++ [10] = acc ++ ([64] ++ hexL p1 ++ bytesL p2 ++ [10]) := by simp
              rw [e] at hH6
              exact hH6
            case measure => simp [intOf]; omega
    · obtain rfl : k = ps.length := by omega
      rw [List.take_length] at HH
      have HS := Lib.hid (ibstring_any w.heap.size w.heap.size (printL ps) wr HH.out HB.out.size)
      go_wp2_with (go_at_call 43; refine HS.out.mono ?_; rintro e W6 ⟨rfl, hB6⟩)
      go_ret
      exact ⟨rfl, HB.out.trans hB6⟩
end Go.Proofs.YtcigceaadkjenaaDoor
