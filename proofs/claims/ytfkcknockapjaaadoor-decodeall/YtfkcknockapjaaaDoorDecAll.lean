/- Layer 3: what All answers; walk of DecodeAll. -/
import Derived.Test.YtfkcknockapjaaaDoorDecLaws
import Derived.OwnWalk
import Derived.Laws.OwnMore
namespace Go.Proofs.YtfkcknockapjaaaDoor
open Go.RowKit
set_option linter.unusedVariables false

/-- An instruction's six cells. -/
def insL (x : Int) : List Value := [.int .i64 (kindOf x), .int .i64 (fldRd x (formZ (kindOf x))), .int .i64 (fldRs1 x (formZ (kindOf x))), .int .i64 (fldRs2 x (formZ (kindOf x))), .int .u32 (immOf x (formZ (kindOf x))), .int .i64 (fldCsr x (formZ (kindOf x)))]
def insTo (f : Nat → Int) : Nat → List Value
  | 0 => []
  | k + 1 => insTo f k ++ insL (f k)
theorem insTo_length (f : Nat → Int) : ∀ k, (insTo f k).length = k * 6
  | 0 => rfl
  | k + 1 => by simp [insTo, insTo_length f k, insL]; omega
theorem insTo_at (f : Nat → Int) (j : Nat) (hj : j < 6) : ∀ n k, k < n → (insTo f n)[k * 6 + j]? = (insL (f k))[j]?
  | 0, k, h => absurd h (by omega)
  | n + 1, k, h => by
    have hl := insTo_length f n
    by_cases c : k < n
    · rw [insTo, List.getElem?_append_left (by omega)]
      exact insTo_at f j hj n k c
    · obtain rfl : k = n := by omega
      rw [insTo, List.getElem?_append_right (by omega), hl, Nat.add_sub_cancel_left]

theorem ins_L (x : Int) : ∃ op rd rs1 rs2 imm csr : Int, insV x = .agg #[.int .i64 op, .int .i64 rd, .int .i64 rs1, .int .i64 rs2, .int .u32 imm, .int .i64 csr] ∧ insL x = [.int .i64 op, .int .i64 rd, .int .i64 rs1, .int .i64 rs2, .int .u32 imm, .int .i64 csr] := ⟨_, _, _, _, _, _, rfl, rfl⟩

theorem own_below {w w' : World} {base : Nat} {e : TypeId} {size : Nat} {v : Value} {n : Nat} {xs : List Value} (h : w.ownsRow base e size v n xs) (hb : Below w.heap.size w w') : w'.ownsRow base e size v n xs := by
  refine ⟨h.1, ?_⟩
  rcases h.2 with hn | ⟨g, cap, cur, hv, hbs, hg, rest⟩
  · exact .inl hn
  · have hlt : g < w.heap.size := by
      refine Nat.lt_of_not_le fun hn => ?_
      rw [Array.getElem?_eq_none hn] at hg; cases hg
    exact .inr ⟨g, cap, cur, hv, hbs, by rw [← hg]; exact hb.block g hlt, rest⟩

set_option maxHeartbeats 1000000 in
theorem all_any (f : Nat → Int) (b off len cap : Nat) (w : World) (hn : len ≤ 1000) (hf : ∀ i, i < len → 0 ≤ f i ∧ f i < 4294967296) (hc : ∀ i, i < len → w.cell? ⟨b, off + i, none⟩ = some (.int .u32 (f i))) (tf : FormTab w) (tm : MatchTab w) :
    Calls Tryd.prog 13 #[.slice (some ⟨b, off, none⟩) len cap] w fun e w' => ∃ v, e = .returned v ∧ w'.ownsRow w.heap.size 24 6 v len (insTo f len) ∧ Below w.heap.size w w' := by
  have HC : Hid (∀ i, i < len → w.cell? ⟨b, off + i, none⟩ = some (.int .u32 (f i))) := hc
  have HX : Hid (∀ i, i < len → 0 ≤ f i ∧ f i < 4294967296) := hf
  have HF : Hid (FormTab w) := tf
  have HM : Hid (MatchTab w) := tm
  clear tf tm hc hf
  obtain ⟨i0, hi, hz0, hz1, hz2⟩ := info_parts (P := Tryd.prog) (e := 24) (z := .agg #[.int .i64 0, .int .i64 0, .int .i64 0, .int .i64 0, .int .u32 0, .int .i64 0]) (size := 6) (bytes := 48) (by kernel_rfl)
  go_enter Tryd.func13, Tryd.ntmps13
  go_wp2_with (at_make; refine wpList_make_own _ rfl _ _ 32 rfl w.heap.size 24 i0 _ 6 Tryd.underlying32 hi hz0 hz1 .i64 .i64 _ len rfl rfl rfl (by rw [hz2]; omega) (by unfold maxLen; omega) (Nat.le_refl _) ?_)
  intro w1 hown hg
  have hb : Below w.heap.size w w1 := (Below.refl _ _).grown hg (Nat.le_refl _) (fun _ h => by cases h)
  clear hg
  go_wp2
  go_loopw [3, 11] (fun v i wr => ∃ k : Nat, k ≤ len ∧ i = .int .i64 k ∧ wr.ownsRow w.heap.size 24 6 v k (insTo f k) ∧ Below w.heap.size w wr) (fun _ i _ => len - (intOf i).toNat)
  case atStart => exact ⟨0, Nat.zero_le _, rfl, hown, hb⟩
  case round =>
    clear hown hb
    obtain ⟨k, hk, rfl, hown, hb⟩ := hrel
    by_cases hlt : k < len
    · have hcx : wr.cell? ⟨b, off + k, none⟩ = some (.int .u32 (f k)) := dcell_on hb (HC.out k hlt)
      have hx := HX.out k hlt
      go_wp2_with fail
      refine (decode_any (f k) _ hx.1 hx.2 (FormTab.below HF.out hb) (MatchTab.below HM.out hb)).mono ?_
      rintro e w2 ⟨rfl, kb⟩
      have hown2 := own_below hown kb
      have hb2 : Below w.heap.size w w2 := hb.trans (kb.mono hb.size)
      obtain ⟨op, rd, rs1, rs2, imm, csr, hI, hL⟩ := ins_L (f k)
      rw [hI]
      have HL : Hid (insL (f k) = [.int .i64 op, .int .i64 rd, .int .i64 rs1, .int .i64 rs2, .int .u32 imm, .int .i64 csr]) := hL
      clear hI hL hown hb kb hcx
      go_wp2_with (at_builtin; refine wpList_append_own _ rfl _ _ 32 rfl w.heap.size 24 i0 _ 6 48 Tryd.underlying32 hi hz0 hz1 hz2 rfl (by decide) _ _ _ rfl (hown2.alloc _) ⟨w2.heap.size, 0, none⟩ 1 1 [.int .i64 op, .int .i64 rd, .int .i64 rs1, .int .i64 rs2, .int .u32 imm, .int .i64 csr] rfl rfl ?c1 ?c2 ?c3 ?c4 ?c5 ?_)
      case c1 =>
        intro j u hj
        match j, hj with
        | 0, hj => simp at hj; subst hj; simp [Addr.add]
        | 1, hj => simp at hj; subst hj; simp [Addr.add]
        | 2, hj => simp at hj; subst hj; simp [Addr.add]
        | 3, hj => simp at hj; subst hj; simp [Addr.add]
        | 4, hj => simp at hj; subst hj; simp [Addr.add]
        | 5, hj => simp at hj; subst hj; simp [Addr.add]
      case c2 =>
        intro u hu
        simp at hu
        rcases hu with rfl | rfl | rfl | rfl | rfl | rfl <;> rfl
      case c3 => unfold maxLen; omega
      case c4 => omega
      case c5 => have := hb2.size; simp; omega
      intro v' w3 hown' hgrow _
      have hb' : Below w.heap.size w w3 := (hb2.alloc hb2.size _).grown hgrow (by have := hb2.size; simp; omega) (fun j hj => (hown2.lt j hj).1)
      have ho : w3.ownsRow w.heap.size 24 6 v' (k + 1) (insTo f (k + 1)) := by
        rw [insTo, HL.out]; exact hown'
      clear hown' hgrow hown2
      go_wp2
      go_roundw
      case rel => exact ⟨k + 1, by omega, by go_num, ho, hb'⟩
      case measure => simp [intOf]; omega
    · obtain rfl : k = len := by omega
      go_wp2
      go_ret
      exact ⟨_, rfl, hown, hb⟩

set_option maxHeartbeats 1000000 in
theorem all_zero (a : Option Addr) (cap : Nat) (w : World) :
    Calls Tryd.prog 13 #[.slice a 0 cap] w fun e w' => ∃ v, e = .returned v ∧ w'.ownsRow w.heap.size 24 6 v 0 [] ∧ Below w.heap.size w w' := by
  obtain ⟨i0, hi, hz0, hz1, hz2⟩ := info_parts (P := Tryd.prog) (e := 24) (z := .agg #[.int .i64 0, .int .i64 0, .int .i64 0, .int .i64 0, .int .u32 0, .int .i64 0]) (size := 6) (bytes := 48) (by kernel_rfl)
  go_enter Tryd.func13, Tryd.ntmps13
  go_wp2_with (at_make; refine wpList_make_own _ rfl _ _ 32 rfl w.heap.size 24 i0 _ 6 Tryd.underlying32 hi hz0 hz1 .i64 .i64 _ 0 rfl rfl rfl (by rw [hz2]; omega) (by unfold maxLen; omega) (Nat.le_refl _) ?_)
  intro w1 hown hg
  have hb : Below w.heap.size w w1 := (Below.refl _ _).grown hg (Nat.le_refl _) (fun _ h => by cases h)
  clear hg
  go_wp2
  go_loopw [3, 11] (fun v i wr => i = .int .i64 0 ∧ wr.ownsRow w.heap.size 24 6 v 0 [] ∧ Below w.heap.size w wr) (fun _ i _ => 0)
  case atStart => exact ⟨rfl, hown, hb⟩
  case round =>
    clear hown hb
    obtain ⟨rfl, hown, hb⟩ := hrel
    go_wp2
    go_ret
    exact ⟨_, rfl, hown, hb⟩

namespace decodeAll
set_option maxHeartbeats 2000000 in
theorem walk (a0 : Option Addr) (len0 cap0 : Nat) (z0 : List Int) (w : World) (w0 : IsRow .u32 w a0 len0 cap0 z0) (tf : FormTab w) (tm : MatchTab w) :
    Calls Tryd.prog 7 #[.slice a0 len0 cap0] w fun e w' => e = .returned (.bool true) ∧ Below w.heap.size w w' := by
  have hl0 : len0 ≤ maxLen := by
    rcases w0 with ⟨rfl, rfl, rfl, rfl⟩ | ⟨x, rfl, hl, hm, hz, hcell, hwz⟩
    · exact Nat.zero_le _
    · omega
  unfold maxLen at hl0
  have HF : Hid (FormTab w) := tf
  have HM : Hid (MatchTab w) := tm
  clear tf tm
  by_cases hbig : 1000 < len0
  · clear w0
    go_enter Tryd.func7, Tryd.ntmps7
    go_wp2_with fail
    refine (dawake_any _ HF.out HM.out).mono ?_
    rintro e w1 ⟨rfl, hb⟩
    go_wp2
    go_ret
    exact ⟨rfl, hb⟩
  · by_cases hzero : len0 = 0
    · subst hzero
      clear w0
      go_enter Tryd.func7, Tryd.ntmps7
      go_wp2_with fail
      refine (all_zero _ _ _).mono ?_
      rintro e w1 ⟨v, rfl, hown, hb⟩
      obtain ⟨p, c, rfl⟩ : ∃ p c, v = .slice p 0 c := by
        rcases hown.2 with ⟨rfl, _⟩ | ⟨g, cap, cur, rfl, _⟩
        · exact ⟨_, _, rfl⟩
        · exact ⟨_, _, rfl⟩
      clear hown
      go_wp2
      go_loopw [4] (fun i wr => i = .int .i64 0 ∧ Below w.heap.size w wr) (fun i _ => 0)
      case atStart => exact ⟨rfl, hb⟩
      case round =>
        clear hb
        obtain ⟨rfl, hb⟩ := hrel
        go_wp2_with fail
        refine (dawake_any _ (FormTab.below HF.out hb) (MatchTab.below HM.out hb)).mono ?_
        rintro e w2 ⟨rfl, hb2⟩
        go_wp2
        go_ret
        exact ⟨rfl, hb.trans (hb2.mono hb.size)⟩
    · rcases w0 with ⟨rfl, rfl, rfl, rfl⟩ | ⟨x, rfl, hl, hm, hz, hcell, hwz⟩
      · exact absurd rfl hzero
      · obtain ⟨b, off, spot⟩ := x
        have hspot : spot = none := by simpa [Addr.add] using World.cell?_spot (hcell 0 (by omega))
        subst hspot
        have HC : Hid (∀ i, i < len0 → w.cell? ⟨b, off + i, none⟩ = some (.int .u32 (z0.getD i 0))) := fun i hi => by
          rw [← add_plain]; exact hcell i (by omega)
        have HZ : Hid (∀ i, i < len0 → 0 ≤ z0.getD i 0 ∧ z0.getD i 0 < 4294967296) := fun i hi => by
          have hi' : i < z0.length := by omega
          have := bounds_u32 (hwz (z0.getD i 0) (by rw [List.getD_eq_getElem?_getD, List.getElem?_eq_getElem hi']; exact List.getElem_mem hi'))
          omega
        clear hcell hwz hz
        generalize hf : (fun i => z0.getD i 0) = f at *
        have HC' : Hid (∀ i, i < len0 → w.cell? ⟨b, off + i, none⟩ = some (.int .u32 (f i))) := fun i hi => by rw [← hf]; exact HC.out i hi
        have HZ' : Hid (∀ i, i < len0 → 0 ≤ f i ∧ f i < 4294967296) := fun i hi => by rw [← hf]; exact HZ.out i hi
        clear HC HZ hf
        go_enter Tryd.func7, Tryd.ntmps7
        go_wp2_with fail
        refine (all_any f _ _ _ _ _ (by omega) HZ'.out HC'.out HF.out HM.out).mono ?_
        rintro e w1 ⟨v, rfl, hown, hb⟩
        obtain ⟨g, c, rfl⟩ : ∃ g c, v = .slice (some ⟨g, 0, none⟩) len0 c := by
          rcases hown.2 with ⟨_, h⟩ | ⟨g, cap, cur, rfl, _⟩
          · exact absurd h hzero
          · exact ⟨_, _, rfl⟩
        have HO : Hid (∀ k j, k < len0 → j < 6 → w1.cell? ⟨g, k * 6 + j, none⟩ = (insL (f k))[j]?) := fun k j hk hj => by
          rw [hown.cellAt (k * 6 + j) (by omega), insTo_at f j hj len0 k hk]
        clear hown
        go_wp2
        go_loopw [4] (fun i wr => ∃ k : Nat, k ≤ len0 ∧ i = .int .i64 k ∧ Below w1.heap.size w1 wr) (fun i _ => len0 - (intOf i).toNat)
        case atStart => exact ⟨0, Nat.zero_le _, rfl, Below.refl _ _⟩
        case round =>
          obtain ⟨k, hk, rfl, hr⟩ := hrel
          by_cases hlt : k < len0
          · obtain ⟨op, rd, rs1, rs2, imm, csr, hI, hL⟩ := ins_L (f k)
            have hx := HZ'.out k hlt
            have hcx : wr.cell? ⟨b, off + k, none⟩ = some (.int .u32 (f k)) := dcell_on hr (dcell_on hb (HC'.out k hlt))
            have o0 : wr.cell? ⟨g, k * 6, none⟩ = some (.int .i64 op) := dcell_on hr (by have := HO.out k 0 hlt (by omega); rw [hL] at this; exact this)
            have o1 : wr.cell? ⟨g, k * 6 + 1, none⟩ = some (.int .i64 rd) := dcell_on hr (by have := HO.out k 1 hlt (by omega); rw [hL] at this; exact this)
            have o2 : wr.cell? ⟨g, k * 6 + 2, none⟩ = some (.int .i64 rs1) := dcell_on hr (by have := HO.out k 2 hlt (by omega); rw [hL] at this; exact this)
            have o3 : wr.cell? ⟨g, k * 6 + 3, none⟩ = some (.int .i64 rs2) := dcell_on hr (by have := HO.out k 3 hlt (by omega); rw [hL] at this; exact this)
            have o4 : wr.cell? ⟨g, k * 6 + 4, none⟩ = some (.int .u32 imm) := dcell_on hr (by have := HO.out k 4 hlt (by omega); rw [hL] at this; exact this)
            have o5 : wr.cell? ⟨g, k * 6 + 5, none⟩ = some (.int .i64 csr) := dcell_on hr (by have := HO.out k 5 hlt (by omega); rw [hL] at this; exact this)
            have HI : Hid (insV (f k) = .agg #[.int .i64 op, .int .i64 rd, .int .i64 rs1, .int .i64 rs2, .int .u32 imm, .int .i64 csr]) := hI
            clear hI hL
            go_wp2
            have HR : Hid (Below w1.heap.size w1 wr.drew) := hr.drew
            have HS : Hid (wr.drew.cell? ⟨b, off + k, none⟩ = some (.int .u32 (f k)) ∧ wr.drew.cell? ⟨g, k * 6, none⟩ = some (.int .i64 op) ∧ wr.drew.cell? ⟨g, k * 6 + 1, none⟩ = some (.int .i64 rd) ∧ wr.drew.cell? ⟨g, k * 6 + 2, none⟩ = some (.int .i64 rs1) ∧ wr.drew.cell? ⟨g, k * 6 + 3, none⟩ = some (.int .i64 rs2) ∧ wr.drew.cell? ⟨g, k * 6 + 4, none⟩ = some (.int .u32 imm) ∧ wr.drew.cell? ⟨g, k * 6 + 5, none⟩ = some (.int .i64 csr)) := ⟨hcx, o0, o1, o2, o3, o4, o5⟩
            go_region_held3 (fun w' => w'.cell? ⟨b, off + k, none⟩ = some (.int .u32 (f k)) ∧ w'.cell? ⟨g, k * 6, none⟩ = some (.int .i64 op) ∧ w'.cell? ⟨g, k * 6 + 1, none⟩ = some (.int .i64 rd) ∧ w'.cell? ⟨g, k * 6 + 2, none⟩ = some (.int .i64 rs1) ∧ w'.cell? ⟨g, k * 6 + 3, none⟩ = some (.int .i64 rs2) ∧ w'.cell? ⟨g, k * 6 + 4, none⟩ = some (.int .u32 imm) ∧ w'.cell? ⟨g, k * 6 + 5, none⟩ = some (.int .i64 csr)) (first | (refine ⟨?_, ?_, ?_, ?_, ?_, ?_, ?_⟩ <;> assumption) | simp)
              (first | (go_at_call 8; refine (rdec_any (f k) _ hx.1 hx.2).mono ?_; rintro e w2 ⟨rfl, hb2⟩; rw [HI.out]; have HB2 : Below w1.heap.size w1 w2 := HR.out.trans (hb2.mono HR.out.size); have q := dcell_on hb2 HS.out.1; have q0 := dcell_on hb2 HS.out.2.1; have q1 := dcell_on hb2 HS.out.2.2.1; have q2 := dcell_on hb2 HS.out.2.2.2.1; have q3 := dcell_on hb2 HS.out.2.2.2.2.1; have q4 := dcell_on hb2 HS.out.2.2.2.2.2.1; have q5 := dcell_on hb2 HS.out.2.2.2.2.2.2; clear hb2))
            all_goals go_wp2
            all_goals go_roundw
            case rel => exact ⟨k + 1, by omega, by go_num, HB2⟩
            case measure => simp [intOf]; omega
          · obtain rfl : k = len0 := by omega
            have hb2 : Below w.heap.size w wr := hb.trans (hr.mono hb.size)
            go_wp2_with fail
            refine (dawake_any _ (FormTab.below HF.out hb2) (MatchTab.below HM.out hb2)).mono ?_
            rintro e w2 ⟨rfl, hb3⟩
            go_wp2
            go_ret
            exact ⟨rfl, hb2.trans (hb3.mono hb2.size)⟩
end decodeAll
end Go.Proofs.YtfkcknockapjaaaDoor
