/- Layer 15: Lay. -/
import Derived.Test.YtcigceaadkjenaaDoorImgRLay
import Derived.Test.YtcigceaadkjenaaDoorRamGo4
namespace Go.Proofs.YtcigceaadkjenaaDoor
open Go.RowKit
set_option linter.unusedVariables false
set_option linter.unusedSimpArgs false
set_option maxRecDepth 100000

theorem lay_nil (v : Value) (w : World) :
    Calls Tryd.prog 14 #[.pointer none, v] w fun e w' => e = .returned (.int .i64 2) ∧ w' = w := by
  go_enter Tryd.func14, Tryd.ntmps14
  go_wp2
  go_ret
  exact ⟨rfl, rfl⟩

set_option maxHeartbeats 2000000 in
theorem lay_no (K R P : Nat) (v : Value) (ps : List Prt) (w : World) (h : RdPs w v ps) (hf : Fine ps) (hK : K ≤ 1024) (hn : ps.length ≤ 1000000) (hm : ∀ p ∈ ps, p.2.length ≤ maxLen) (hl : longL ps = false)
    (hc : w.cell? ⟨R, 0, none⟩ = some (.slice (some ⟨P, 0, none⟩) K K)) (h6 : chkZ K ps = 6) :
    Calls Tryd.prog 14 #[.pointer (some ⟨R, 0, none⟩), v] w fun e w' => e = .returned (.int .i64 6) ∧ Below w.heap.size w w' := by
  have HCK := Lib.hid (check15_any K v ps w h hf hK hn hm hl)
  rw [h6] at HCK
  have HSZ := Lib.hid (size_any R P K w hK hc)
  obtain ⟨S, hS⟩ : ∃ S : Int, 64 * (K : Int) = S := ⟨_, rfl⟩
  rw [hS] at HCK HSZ
  clear h hf hm hl hc hS
  go_enter Tryd.func14, Tryd.ntmps14
  go_wp2_with (first
    | (go_at_call 29; refine HSZ.out.mono ?_; rintro e w0 ⟨rfl, hw⟩; have hw := hw.symm; subst hw)
    | (go_at_call 13; refine HCK.out.mono ?_; rintro e w1 ⟨rfl, hb1⟩))
  go_ret
  exact ⟨rfl, hb1⟩

set_option maxHeartbeats 4000000 in
theorem lay_yes (K R P : Nat) (v : Value) (ps : List Prt) (b : Nat → Int) (wa : Nat → Bool) (g : Nat → Int) (u w : World) (h : RdPs u v ps) (huw : Below u.heap.size u w) (hP : u.heap.size ≤ P) (hR : IsRam w R P K b wa g) (hf : Fine ps) (hK : K ≤ 1024) (hn : ps.length ≤ 1000000) (hm : ∀ p ∈ ps, p.2.length ≤ maxLen) (hl : longL ps = false)
    (hfit : ∀ p ∈ ps, fitB K p = true) :
    Calls Tryd.prog 14 #[.pointer (some ⟨R, 0, none⟩), v] w fun e w' => e = .returned (.int .i64 0) ∧ IsRam w' R P K (layB b ps) wa g ∧ Below u.heap.size u w' ∧ Bar P w w' := by
  have HCK := Lib.hid (check15_any K v ps w (h.on huw) hf hK hn hm hl)
  rw [chk_yes hfit] at HCK
  have HSZ := Lib.hid (size_any R P K w hK hR.ptr)
  obtain ⟨S, hS⟩ : ∃ S : Int, 64 * (K : Int) = S := ⟨_, rfl⟩
  rw [hS] at HCK HSZ
  have HFI : Hid (∀ (V : World) (b' : Nat → Int) (p : Prt) (bb bo cap : Nat), p ∈ ps → p.2.length ≠ 0 → IsRam V R P K b' wa g → p.2.length ≤ cap → bb ≠ P → (∀ i, i < p.2.length → V.cell? ⟨bb, bo + i, none⟩ = some (.int .u8 (p.2.getD i 0))) →
      Calls Tryd.prog 30 #[.pointer (some ⟨R, 0, none⟩), .int .u32 p.1, .slice (some ⟨bb, bo, none⟩) p.2.length cap] V fun e w' => e = .returned (.int .i64 0) ∧ IsRam w' R P K (layP b' p) wa g ∧ Bar P V w') := fun V b' p bb bo cap hp h0 hI hlc hne hs => by
    obtain ⟨e1, e2⟩ := fit_at (hfit p hp) h0
    exact fill_yes R P K (p.1 - 2147483648).toNat p.1 bb bo p.2.length cap (fun i => p.2.getD i 0) b' wa g V hK hI e1 (by omega) hlc e2 hne hs
  have HM := Lib.hid hm
  have HR := Lib.hid hR
  have HU := Lib.hid huw
  have HPL := Lib.hid hP
  obtain ⟨a, ac, rfl, h⟩ := h
  clear hR huw hf hm hl hfit hS hP
  go_enter Tryd.func14, Tryd.ntmps14
  go_wp2_with (first
    | (go_at_call 29; refine HSZ.out.mono ?_; rintro e w0 ⟨rfl, hw⟩; have hw := hw.symm; subst hw)
    | (go_at_call 13; refine HCK.out.mono ?_; rintro e w1 ⟨rfl, hb1⟩))
  have HI1 := Lib.hid (HR.out.on hb1)
  have HU1 : Hid (Below u.heap.size u w1) := HU.out.trans (hb1.mono HU.out.size)
  have HV1 : Hid (Bar P w w1) := Bar.of P hb1
  clear hb1 HR HU HCK HSZ
  go_loopw [19] (fun i wr => ∃ k : Nat, k ≤ ps.length ∧ i = .int .i64 (k : Int) ∧ Hid (IsRam wr R P K (layB b (ps.take k)) wa g) ∧ Hid (Below u.heap.size u wr) ∧ Hid (Bar P w wr)) (fun i _ => ps.length - (intOf i).toNat)
  case atStart => exact ⟨0, Nat.zero_le _, rfl, HI1.out, HU1.out, HV1.out⟩
  case round =>
    obtain ⟨k, hk, rfl, HI, HW, HV⟩ := hrel
    by_cases hlt : k < ps.length
    · rcases h with h | ⟨pb, po, rfl, hi⟩
      · subst h; simp at hlt
      · obtain ⟨p, hp⟩ : ∃ p, ps[k]? = some p := ⟨_, List.getElem?_eq_getElem hlt⟩
        have hpm := List.mem_of_getElem? hp
        obtain ⟨u0, ua, uc, u1, hux⟩ := hi k p hp
        have c0 := (HW.out.cell (World.block_lt_of_cell? u _ u0)).trans u0
        have c1 := (HW.out.cell (World.block_lt_of_cell? u _ u1)).trans u1
        have hpl := HM.out p hpm
        have HI2 := Lib.hid hi
        have HT := Lib.hid (layB_take b ps k p hp)
        have HPM := Lib.hid hpm
        have hsw := HW.out.size
        clear hi hp hpm u0 u1
        obtain ⟨p1, p2⟩ := p
        replace hpl : p2.length ≤ 9223372036854775807 := hpl
        obtain ⟨W1, hW1⟩ : ∃ W1, wr.alloc (.cells #[.int .u32 p1, .slice ua p2.length uc] 51) = W1 := ⟨_, rfl⟩
        have HI3 : Hid (IsRam W1 R P K (layB b (ps.take k)) wa g) := by rw [← hW1]; exact HI.out.on ((Below.refl _ _).alloc (Nat.le_refl _) _)
        have HW3 : Hid (Below u.heap.size u W1) := by rw [← hW1]; exact HW.out.alloc hsw _
        have HV3 : Hid (Bar P w W1) := by rw [← hW1]; exact HV.out.trans (Bar.of P ((Below.refl _ _).alloc (Nat.le_refl _) _))
        have m0 : W1.cell? ⟨wr.heap.size, 0, none⟩ = some (.int .u32 p1) := by rw [← hW1]; simp
        have m1 : W1.cell? ⟨wr.heap.size, 1, none⟩ = some (.slice ua p2.length uc) := by rw [← hW1]; simp
        by_cases h0 : p2.length = 0
        · have hnil : p2 = [] := List.eq_nil_of_length_eq_zero h0
          have e1 : layB b (ps.take (k + 1)) = layB b (ps.take k) := by rw [HT.out, hnil]; exact layP_nil _ _
          have HF0 := Lib.hid (fill_none R p1 ua uc W1)
          have HI4 : Hid (IsRam W1 R P K (layB b (ps.take (k + 1))) wa g) := by rw [e1]; exact HI3.out
          subst hnil
          simp only [List.length_nil] at hW1 c1 m1
          clear hux e1
          go_wp2_with (go_at_call 30; refine HF0.out.mono ?_; rintro e w3 ⟨rfl, hw⟩; have hw := hw.symm; subst hw)
          go_roundw
          case rel => exact ⟨k + 1, by omega, by go_num, HI4, HW3, HV3⟩
          case measure => simp [intOf]; omega
        · obtain ⟨a', c', e, hcl, hcs⟩ := hux
          rcases hcs with hnil | ⟨xb, xo, rfl, hcell⟩
          · rw [show p2 = [] from hnil] at h0; exact absurd rfl h0
          · cases e
            have hbl : xb < u.heap.size := World.block_lt_of_cell? u _ (hcell 0 (Nat.pos_of_ne_zero h0))
            have hPL : u.heap.size ≤ P := HPL.out
            have hne : xb ≠ P := by omega
            have HFF := Lib.hid (HFI.out W1 (layB b (ps.take k)) (p1, p2) xb xo uc HPM.out h0 HI3.out hcl hne (fun i hi2 => by
              rw [HW3.out.cell (World.block_lt_of_cell? u _ (hcell i hi2))]; exact hcell i hi2))
            clear hcell hbl hne hPL
            go_wp2_with (go_at_call 30; refine HFF.out.mono ?_; rintro e w3 ⟨rfl, hi3, hb3⟩; have HI5 : Hid (IsRam w3 R P K (layB b (ps.take (k + 1))) wa g) := (by rw [HT.out]; exact hi3); have HW5 : Hid (Below u.heap.size u w3) := HW3.out.trans (hb3.below HPL.out HW3.out.size); have HV5 : Hid (Bar P w w3) := HV3.out.trans hb3; clear hi3 hb3)
            go_roundw
            case rel => exact ⟨k + 1, by omega, by go_num, HI5, HW5, HV5⟩
            case measure => simp [intOf]; omega
    · obtain rfl : k = ps.length := by omega
      rw [List.take_length] at HI
      go_wp2
      go_ret
      exact ⟨rfl, HI.out, HW.out, HV.out⟩
end Go.Proofs.YtcigceaadkjenaaDoor
