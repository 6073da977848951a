/- Layer 15: the document's Lay. -/
import Derived.Test.YtcigceaadkjenaaDoorImgRChk
import Derived.Test.YtcigceaadkjenaaDoorRamPut
namespace Go.Proofs.YtcigceaadkjenaaDoor
open Go.RowKit
set_option linter.unusedVariables false
set_option linter.unusedSimpArgs false
set_option maxRecDepth 100000

theorem fit_at {K : Nat} {p : Prt} (h : fitB K p = true) (hp : p.2.length ≠ 0) : p.1 = 2147483648 + ((p.1 - 2147483648).toNat : Int) ∧ (p.1 - 2147483648).toNat + p.2.length ≤ 64 * K := by
  have h1 : hasB K p.1 p.2.length = true := by
    unfold fitB at h
    simpa [hp] using h
  have := hasB_yes h1
  omega

set_option maxHeartbeats 4000000 in
theorem rlay15_any (K : Nat) (v : Value) (ps : List Prt) (B : Nat) (cap : Nat) (b : Nat → Int) (w : World) (h : RdPs w v ps) (hf : Fine ps) (hK : K ≤ 1024) (hB : RowB w B (64 * K) b) (hcap : 64 * K ≤ cap) (hn : ps.length ≤ 1000000) (hm : ∀ p ∈ ps, p.2.length ≤ maxLen) (hfit : ∀ p ∈ ps, fitB K p = true) :
    Calls Tryd.prog 15 #[.slice (some ⟨B, 0, none⟩) (64 * K) cap, v] w fun e w' => ∃ B' c, e = .returned (.slice (some ⟨B', 0, none⟩) (64 * K) c) ∧ RowB w' B' (64 * K) (layB b ps) ∧ Below w.heap.size w w' := by
  have HPUT : Hid (∀ (V : World) (B' c xb xo xc : Nat) (b' : Nat → Int) (p : Prt), p ∈ ps → p.2.length ≠ 0 → RowB V B' (64 * K) b' → 64 * K ≤ c → (∀ i, i < p.2.length → V.cell? ⟨xb, xo + i, none⟩ = some (.int .u8 (p.2.getD i 0))) →
      Calls Tryd.prog 31 #[.slice (some ⟨B', 0, none⟩) (64 * K) c, .int .u32 p.1, .slice (some ⟨xb, xo, none⟩) p.2.length xc] V fun e w' => ∃ B'' c', e = .returned (.slice (some ⟨B'', 0, none⟩) (64 * K) c') ∧ (64 * K ≤ c' ∧ V.heap.size ≤ B'' ∧ RowB w' B'' (64 * K) (layP b' p)) ∧ Below V.heap.size V w') := fun V B' c xb xo xc b' p hp h0 hr hc hs => by
    obtain ⟨e1, e2⟩ := fit_at (hfit p hp) h0
    exact rput10_any K (p.1 - 2147483648).toNat p.1 B' c xb xo p.2.length xc b' (fun i => p.2.getD i 0) V hK hr e1 (by omega) e2 hc hs
  have HM := Lib.hid hm
  have HB := Lib.hid hB
  obtain ⟨a, ac, rfl, h⟩ := h
  have hcapH := Lib.hid hcap
  obtain ⟨L, hL⟩ : ∃ L, 64 * K = L := ⟨_, rfl⟩
  rw [hL] at HPUT HB hcapH ⊢
  clear hL hf hm hB hcap hfit
  go_enter Tryd.func15, Tryd.ntmps15
  go_wp2
  go_loopw [0, 5] (fun s i wr => ∃ (k B' c : Nat), k ≤ ps.length ∧ i = .int .i64 (k : Int) ∧ s = .slice (some ⟨B', 0, none⟩) L c ∧ Hid (L ≤ c) ∧ Hid (RowB wr B' L (layB b (ps.take k))) ∧ Hid (Below w.heap.size w wr)) (fun _ i _ => ps.length - (intOf i).toNat)
  case atStart => exact ⟨0, B, cap, Nat.zero_le _, rfl, rfl, hcapH.out, HB.out, Below.refl _ _⟩
  case round =>
    obtain ⟨k, B', c, hk, rfl, rfl, hc, HR, HW⟩ := hrel
    by_cases hlt : k < ps.length
    · rcases h with h | ⟨pb, po, rfl, hi⟩
      · subst h; simp at hlt
      · obtain ⟨p, hp⟩ : ∃ p, ps[k]? = some p := ⟨_, List.getElem?_eq_getElem hlt⟩
        have hpm := List.mem_of_getElem? hp
        obtain ⟨c0, a1, cp, c1, hbx⟩ := (hi k p hp).on (HW.out.mono (Nat.le_refl _))
        have hpl := HM.out p hpm
        have HI := Lib.hid hi
        have HT := Lib.hid (layB_take b ps k p hp)
        have hlt' : (k : Int) < (ps.length : Int) := by omega
        have hk0 : (0 : Int) ≤ (k : Int) := by omega
        have HPM := Lib.hid hpm
        clear hi hp hpm
        obtain ⟨p1, p2⟩ := p
        replace hpl : p2.length ≤ 9223372036854775807 := hpl
        by_cases h0 : p2.length = 0
        · have hnil : p2 = [] := List.eq_nil_of_length_eq_zero h0
          have e1 : layB b (ps.take (k + 1)) = layB b (ps.take k) := by rw [HT.out, hnil]; exact layP_nil _ _
          have HR2 : Hid (RowB wr B' L (layB b (ps.take (k + 1)))) := by rw [e1]; exact HR.out
          clear hbx e1 hnil
          go_wp2
          go_roundw
          case rel => exact ⟨k + 1, B', c, by omega, by go_num, rfl, hc, HR2, HW⟩
          case measure => simp [intOf]; omega
        · obtain ⟨a', c', e, _, hcs⟩ := hbx
          rcases hcs with hnil | ⟨xb, xo, rfl, hcell⟩
          · rw [show p2 = [] from hnil] at h0; exact absurd rfl h0
          · cases e
            have HPC : Hid (∀ V, Below wr.heap.size wr V → _) := fun V hV => HPUT.out V B' c xb xo cp (layB b (ps.take k)) (p1, p2) HPM.out h0 (HR.out.on hV) hc.out (fun i hi2 => by
              rw [hV.cell (World.block_lt_of_cell? wr _ (hcell i hi2))]; exact hcell i hi2)
            have hpos : 0 < p2.length := by omega
            clear hcell
            go_wp2_with fail
            go_region_with (go_at_call 31; refine (HPC.out _ ((Below.refl _ _).drew)).mono ?_; rintro e w3 ⟨B3, c3, rfl, ⟨hc3, _, hr3⟩, hb3⟩)
            all_goals
              have HR3 : Hid (RowB w3 B3 L (layB b (ps.take (k + 1)))) := by rw [HT.out]; exact hr3
              have HW3 : Hid (Below w.heap.size w w3) := HW.out.drew.trans (hb3.mono HW.out.size)
              have HC3 := Lib.hid hc3
              clear hr3 hb3 hc3
              go_wp2
              go_roundw
              case rel => exact ⟨k + 1, B3, c3, by omega, by go_num, rfl, HC3.out, HR3, HW3⟩
              case measure => simp [intOf]; omega
    · obtain rfl : k = ps.length := by omega
      rw [List.take_length] at HR
      go_wp2
      go_ret
      exact ⟨_, _, rfl, HR.out, HW.out⟩
end Go.Proofs.YtcigceaadkjenaaDoor
