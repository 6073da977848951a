/- Layer 15: the document's Print. -/
import Derived.Test.YtcigceaadkjenaaDoorImgPrint
import Derived.Test.YtcigceaadkjenaaDoorUnhex
import Derived.Test.YtcigceaadkjenaaDoorImgRd
namespace Go.Proofs.YtcigceaadkjenaaDoor
open Go.RowKit
set_option linter.unusedVariables false
set_option linter.unusedSimpArgs false
set_option maxRecDepth 100000

set_option maxHeartbeats 2000000 in
theorem rprint15_any (v : Value) (ps : List Prt) (w : World) (h : RdPs w v ps) (hf : Fine ps) (hlen : (printL ps).length ≤ 1000000000) (hn : ps.length ≤ 1000000) :
    Calls Tryd.prog 22 #[v] w fun e w' => e = .returned (.string (bs (printL ps))) ∧ Q w w' := by
  obtain ⟨a, c, rfl, h⟩ := h
  go_enter Tryd.func22, Tryd.ntmps22
  go_wp2
  go_loopw [3, 4] (fun s i wr => ∃ k : Nat, k ≤ ps.length ∧ i = .int .i64 (k : Int) ∧ s = .string (bs (printL (ps.take k))) ∧ Q w wr) (fun _ i _ => ps.length - (intOf i).toNat)
  case atStart => exact ⟨0, Nat.zero_le _, rfl, rfl, Q.refl _⟩
  case round =>
    obtain ⟨k, hk, rfl, rfl, hq⟩ := hrel
    by_cases hlt : k < ps.length
    · rcases h with h | ⟨b, o, rfl, hi⟩
      · subst h; simp at hlt
      · obtain ⟨p, hp⟩ : ∃ p, ps[k]? = some p := ⟨_, List.getElem?_eq_getElem hlt⟩
        have hpt := printL_take ps k p hp
        have hpl := printL_le ps (k + 1)
        rw [hpt, List.length_append] at hpl
        obtain ⟨f0, f1, f2⟩ := hf p (List.mem_of_getElem? hp)
        have hrp := hi k p hp
        obtain ⟨c0, a1, cp, c1, hbx⟩ := hrp.on (hq.below _)
        obtain ⟨p1, p2⟩ := p
        clear hbx hrp
        have HI := Lib.hid hi
        have HF := Lib.hid f2
        have HHF := Lib.hid hf
        clear hi hf f2
        replace hpl : (printL (ps.take k)).length + (1 + 8 + (bytesL p2).length + 1) ≤ (printL ps).length := by
          have : (partL (p1, p2)).length = 1 + 8 + (bytesL p2).length + 1 := by simp [partL, hexL_len]; omega
          omega
        have hpart : partL (p1, p2) = [64] ++ hexL p1 ++ bytesL p2 ++ [10] := rfl
        have HPT := Lib.hid (hpt.trans (by rw [hpart] : _ = printL (ps.take k) ++ ([64] ++ hexL p1 ++ bytesL p2 ++ [10])))
        clear hpt hpart
        have hp2 : p2.length ≤ 1000000000 := by rw [bytesL_len] at hpl; omega
        generalize printL (ps.take k) = acc at *
        have HHX : Hid (∀ V : World, Calls Tryd.prog 44 #[.int .u32 p1] V fun e w' => e = .returned (.string (bs (hexL p1))) ∧ Q V w') := fun V => by
          have := rhex_any p1 V f0 f1
          rwa [hexL_str] at this
        have s0 : (bs acc).size = acc.length := bs_size _
        have s1 : (bs (hexL p1)).size = 8 := by rw [bs_size, hexL_len]
        go_wp2_with (go_at_call 44; refine (HHX.out _).mono ?_; rintro e W3 ⟨rfl, m, rfl⟩)
        go_loopw [3, 5] (fun s i wr' => ∃ (j : Nat) (L : List UInt8), j ≤ p2.length ∧ i = .int .i64 (j : Int) ∧ s = .string (bs L) ∧ Hid (L = acc ++ [64] ++ hexL p1 ++ bytesL (p2.take j)) ∧ Q w wr') (fun _ i _ => p2.length - (intOf i).toNat)
        case atStart => exact ⟨0, acc ++ [64] ++ hexL p1, Nat.zero_le _, rfl, (show Value.string (bs acc ++ bs [64] ++ bs (hexL p1)) = _ by rw [bs_app, bs_app]), (show _ = _ by simp [bytesL]), hq.drewN m⟩
        case round =>
          obtain ⟨j, L, hj, rfl, rfl, HL, hq2⟩ := hrel
          obtain ⟨d0, a2, cp2, d1, hbx⟩ := (HI.out k _ hp).on (hq2.below _)
          by_cases hjl : j < p2.length
          · obtain ⟨a', c', e, _, h⟩ := hbx
            rcases h with hnil | ⟨bb, oo, rfl, hcell⟩
            · rw [show p2 = [] from hnil] at hjl; simp at hjl
            · cases e
              have cb : wr.cell? ⟨bb, oo + j, none⟩ = some (.int .u8 (p2.getD j 0)) := hcell j hjl
              obtain ⟨y, hy⟩ : ∃ y, p2.getD j 0 = y := ⟨_, rfl⟩
              have hyj : p2[j]? = some y := by rw [← hy]; simp [List.getD, hjl]
              rw [hy] at cb
              obtain ⟨y0, y1⟩ := HF.out y (List.mem_of_getElem? hyj)
              have hbt := bytesL_take p2 j y hyj
              have hbl := bytesL_le p2 (j + 1)
              rw [hbt, List.length_append, List.length_append, byteL_len] at hbl
              simp only [List.length_cons, List.length_nil] at hbl
              have HBT := Lib.hid hbt
              clear hbt hcell hy hyj
              generalize bytesL (p2.take j) = bj at *
              have HHB : Hid (∀ V : World, Calls Tryd.prog 44 #[.int .u32 y] V fun e w' => e = .returned (.string (bs (hexL y))) ∧ Q V w') := fun V => by
                have := rhex_any y V y0 (by omega)
                rwa [hexL_str] at this
              have hx : (bs (hexL y)).extract 6 8 = bs (byteL y) := by rw [bs_cut, List.take_of_length_le (by simp [hexL_len])]; rfl
              have s2 : (bs L).size = L.length := bs_size _
              have hLl : L.length ≤ 1000000000 := by rw [HL.out]; simp [hexL_len]; omega
              have s3 : (bs (hexL y)).size = 8 := by rw [bs_size, hexL_len]
              have s4 : (bs (byteL y)).size = 2 := by rw [bs_size, byteL_len]
              have hyw : y % 4294967296 = y := Int.emod_eq_of_lt y0 (by omega)
              go_wp2_with (go_at_call 44; refine (HHB.out _).mono ?_; rintro e W3 ⟨rfl, m2, rfl⟩)
              go_roundw
              case rel =>
                refine ⟨j + 1, L ++ [32] ++ byteL y, by omega, by go_num, (show Value.string (bs L ++ bs [32] ++ bs (byteL y)) = _ by rw [bs_app, bs_app]), ?_, hq2.drewN m2⟩
                show _ = _
                rw [HBT.out, HL.out]
                simp
              case measure => simp [intOf]; omega
          · obtain rfl : j = p2.length := by omega
            rw [List.take_length] at HL
            have s2 : (bs L).size = L.length := bs_size _
            have hLl : L.length ≤ 1000000000 := by rw [HL.out]; simp [hexL_len]; omega
            clear hbx
            go_wp2
            go_roundw
            case rel =>
              refine ⟨k + 1, by omega, by go_num, ?_, hq2⟩
              rw [HPT.out]
              show Value.string (bs L ++ bs [10]) = _
              rw [bs_app, HL.out]
              simp
            case measure => simp [intOf]; omega
    · obtain rfl : k = ps.length := by omega
      rw [List.take_length]
      go_wp2
      go_ret
      exact ⟨rfl, hq⟩
end Go.Proofs.YtcigceaadkjenaaDoor
