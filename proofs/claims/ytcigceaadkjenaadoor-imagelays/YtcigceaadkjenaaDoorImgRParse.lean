/- Layer 15: the document's own Parse. Written by gen-imgrparse.py. -/
import Derived.Test.YtcigceaadkjenaaDoorImgRPut
import Derived.Test.YtcigceaadkjenaaDoorImgRWords
import Derived.Test.YtcigceaadkjenaaDoorImgRLong
namespace Go.Proofs.YtcigceaadkjenaaDoor
open Go.RowKit
set_option linter.unusedVariables false
set_option linter.unusedSimpArgs false
set_option maxRecDepth 100000

theorem fold_at_none {hx : List UInt8 → Int} {ws : List (List UInt8)} {k : Nat} {x : List UInt8} {ps : List Prt} (h : foldW hx [] (ws.take k) = some ps) (hk : ws[k]? = some x) (ht : takeL hx ps x = none) : foldW hx [] ws = none := by
  have e : ws = ws.take k ++ x :: ws.drop (k + 1) := by
    obtain ⟨hlt, rfl⟩ := List.getElem?_eq_some_iff.1 hk
    rw [← List.drop_eq_getElem_cons hlt, List.take_append_drop]
  rw [e, foldW_app, h]
  show foldW hx ps (x :: _) = none
  rw [foldW, ht]
theorem fold_at_some {hx : List UInt8 → Int} {ws : List (List UInt8)} {k : Nat} {x : List UInt8} {ps qs : List Prt} (h : foldW hx [] (ws.take k) = some ps) (hk : ws[k]? = some x) (ht : takeL hx ps x = some qs) : foldW hx [] (ws.take (k + 1)) = some qs := by
  rw [List.take_add_one, hk]
  exact (fold_snoc h).trans ht
theorem runhex_no (l : List UInt8) (w : World) (hl : l.length ≤ 70000) (h : hexN l < 0) :
    Calls Tryd.prog 38 #[.string (bs l)] w fun e w' => ∃ z : Int, e = .returned (.tuple #[.int .u32 z, .bool false]) ∧ w' = w := by
  refine (runhex_any l w hl).mono ?_
  rintro e w' ⟨x, b, rfl, hb, h0, h1, rfl⟩
  cases b
  · exact ⟨x, rfl, rfl⟩
  · simp at hb; omega
theorem runhex_ok (l : List UInt8) (w : World) (hl : l.length ≤ 70000) (h : ¬ hexN l < 0) :
    Calls Tryd.prog 38 #[.string (bs l)] w fun e w' => e = .returned (.tuple #[.int .u32 (hexN l), .bool true]) ∧ w' = w := by
  refine (runhex_any l w hl).mono ?_
  rintro e w' ⟨x, b, rfl, hb, h0, h1, rfl⟩
  cases b
  · simp at hb; omega
  · simp at hb; subst hb; exact ⟨rfl, rfl⟩

theorem own_mono {W : World} {base base' : Nat} {e : TypeId} {s n : Nat} {u : Value} {xs : List Value} (k : W.ownsRow base e s u n xs) (hb : base' ≤ base) : W.ownsRow base' e s u n xs := by
  refine ⟨k.1, ?_⟩
  rcases k.2 with h | ⟨g, cap, cur, hv, hg, r⟩
  · exact .inl h
  · exact .inr ⟨g, cap, cur, hv, Nat.le_trans hb hg, r⟩
theorem isPs_mono {T : TypeId} {W : World} {base base' : Nat} {v : Value} {ps : List Prt} (h : IsPs T W base v ps) (hb : base' ≤ base) : IsPs T W base' v ps := by
  have own : ∀ {e : TypeId} {s n : Nat} {u : Value} {xs : List Value}, W.ownsRow base e s u n xs → W.ownsRow base' e s u n xs := fun {e s n u xs} k => by
    refine ⟨k.1, ?_⟩
    rcases k.2 with h | ⟨g, cap, cur, hv, hg, r⟩
    · exact .inl h
    · exact .inr ⟨g, cap, cur, hv, Nat.le_trans hb hg, r⟩
  obtain ⟨vs, h1, h2, h3⟩ := h
  exact ⟨vs, own h1, ⟨h2.1, fun i p b hp hb => own (h2.2 i p b hp hb)⟩, h3⟩

set_option maxHeartbeats 8000000 in
theorem rparse15_any (l : List UInt8) (w : World) (hl : l.length ≤ 65536) :
    Calls Tryd.prog 19 #[.string (bs l)] w fun e w' => ∃ v, e = .returned (.tuple #[v, .int .i64 (parseL hexN l).2]) ∧ IsPs tyR w' w.heap.size v (parseL hexN l).1 ∧ Below w.heap.size w w' := by
  obtain ⟨i0, hi, hz0, hz1, hz2⟩ := info_parts info_rpart
  obtain ⟨i1, hj, hy0, hy1, hy2⟩ := info_parts info_byte
  have HW := Lib.hid (rwords_any l w (by omega))
  have HWL := Lib.hid (words_len l)
  have HNE : Hid (∀ q ∈ wordsL l, q ≠ []) := fun q hq => by
    unfold wordsL at hq
    obtain ⟨x, _, hx⟩ := List.mem_flatMap.1 hq
    exact flds_ne _ _ q hx
  have HPN : Hid (foldW hexN [] (wordsL l) = none → parseL hexN l = ([], 1)) := fun h => parse_none h
  have HPS : Hid (∀ ps, foldW hexN [] (wordsL l) = some ps → parseL hexN l = if longL ps then ([], 3) else (ps, 0)) := fun ps h => parse_some h
  generalize parseL hexN l = PL at *
  generalize wordsL l = ws at *
  have hws : ws.length ≤ 65537 := by have := HWL.out.2; omega
  go_enter Tryd.func19, Tryd.ntmps19
  go_wp2_with (go_at_call 37; refine HW.out.mono ?_; rintro e w1 ⟨v1, rfl, hown1, hb1⟩; obtain ⟨gw, cw, rfl⟩ : ∃ gw cw, v1 = .slice gw ws.length cw := (by rcases hown1.2 with ⟨rfl, h0⟩ | ⟨g, cap, cur, rfl, _⟩; exact ⟨none, 0, by rw [h0]⟩; exact ⟨_, _, rfl⟩))
  have HWO := Lib.hid hown1
  have HB1 := Lib.hid hb1
  clear hown1 hb1 HW
  go_loopw [5, 6] (fun o i wr => ∃ (k : Nat) (ps : List Prt), k ≤ ws.length ∧ i = .int .i64 (k : Int) ∧ Hid (foldW hexN [] (ws.take k) = some ps) ∧ Hid (IsPs tyR wr w1.heap.size o ps) ∧ Hid (Below w1.heap.size w1 wr)) (fun _ i _ => ws.length - (intOf i).toNat)
  case atStart => exact ⟨0, [], Nat.zero_le _, rfl, rfl, ⟨[], World.ownsRow_lit w1 #[] 0 (Nat.le_refl _) (by decide) rfl, ⟨rfl, fun i p b h => by simp at h⟩, fun i j a b g _ h => by simp at h⟩, (Below.refl _ _).alloc (Nat.le_refl _) _⟩
  case round =>
    obtain ⟨k, ps, hk, rfl, HF, HI, HB⟩ := hrel
    by_cases hlt : k < ws.length
    · obtain ⟨x, hx⟩ : ∃ x, ws[k]? = some x := ⟨_, List.getElem?_eq_getElem hlt⟩
      have hmem := List.mem_of_getElem? hx
      have hxl : x.length ≤ 65536 := Nat.le_trans (HWL.out.1 x hmem) hl
      have hxn := HNE.out x hmem
      have hxp : 0 < x.length := by
        rcases x with _ | ⟨c, r⟩
        · exact absurd rfl hxn
        · simp
      obtain ⟨gg, rfl⟩ : ∃ gg, gw = some ⟨gg, 0, none⟩ := by
        rcases HWO.out.2 with ⟨_, h0⟩ | ⟨g', cap, cur, e, _⟩
        · omega
        · cases e; exact ⟨_, rfl⟩
      have hcx : wr.cell? ⟨gg, k, none⟩ = some (.string (bs x)) := by
        have h1 : w1.cell? ⟨gg, k, none⟩ = some (.string (bs x)) := by
          rw [HWO.out.cellAt k (by omega), List.getElem?_map, hx]; rfl
        rw [HB.out.cell (World.block_lt_of_cell? w1 _ h1)]; exact h1
      have hsz : (bs x).size = x.length := bs_size x
      have hsf := sign_form (bs x) 0
      obtain ⟨b0, b1⟩ := signAt_bd (bs x) 0
      have HC : Hid (signAt (bs x) 0 = ((x.headD 0).toNat : Int)) := by
        show _ = _
        rw [sgn_bs x 0 hxp]
        cases x <;> rfl
      generalize signAt (bs x) 0 = C at *
      have hbd := foldW_bd HF.out
      have hsum0 : sumL [] = 0 := rfl
      rw [hsum0, List.length_take] at hbd
      simp only [List.length_nil, Nat.zero_add] at hbd
      have HFA := Lib.hid (fun h => fold_at_none HF.out hx h)
      have HFS := Lib.hid (fun (qs : List Prt) h => fold_at_some (qs := qs) HF.out hx h)
      clear hxn hmem HNE
      by_cases h64 : C = 64
      · subst h64
        have hhd : x.headD 0 = 64 := UInt8.toNat_inj.1 (by have := HC.out; show (x.headD 0).toNat = 64; omega)
        have he : (bs x).extract 1 x.length = bs x.tail := by
          rw [bs_cut, List.take_of_length_le (by simp)]
          simp
        have HT : Hid (takeL hexN ps x = if hexN x.tail < 0 then none else some (ps ++ [(hexN x.tail, [])])) := by
          show takeL hexN ps x = _
          unfold takeL
          rw [if_pos hhd]
        have hyl : x.tail.length ≤ 70000 := by simp; omega
        have HZ := hexN_lt x.tail
        by_cases hneg : hexN x.tail < 0
        · have HU : Hid (∀ V : World, Calls Tryd.prog 38 #[.string (bs x.tail)] V fun e w' => ∃ z : Int, e = .returned (.tuple #[.int .u32 z, .bool false]) ∧ w' = V) := fun V => runhex_no _ V hyl hneg
          have HPL : Hid (PL = ([], 1)) := HPN.out (HFA.out (by rw [HT.out, if_pos hneg]))
          clear hneg HZ hhd
          go_wp2_with (go_at_call 38; refine (HU.out _).mono ?_; rintro e w' ⟨z, rfl, hw⟩; subst hw)
          go_ret2
          rw [HPL.out]
          exact ⟨_, rfl, IsPs.nil _ _ _, HB1.out.trans (HB.out.mono HB1.out.size)⟩
        · have HU : Hid (∀ V : World, Calls Tryd.prog 38 #[.string (bs x.tail)] V fun e w' => e = .returned (.tuple #[.int .u32 (hexN x.tail), .bool true]) ∧ w' = V) := fun V => runhex_ok _ V hyl hneg
          have HTK : Hid (foldW hexN [] (ws.take (k + 1)) = some (ps ++ [(hexN x.tail, [])])) := HFS.out _ (by rw [HT.out, if_neg hneg])
          clear hneg hhd HT HFS HFA
          generalize hexN x.tail = z at *
          obtain ⟨us, k1, k2, k3⟩ := HI.out
          have HV := Lib.hid (And.intro k1 (And.intro k2 k3))
          clear k1 k2 k3
          go_wp2_with (first
            | (go_at_call 38; refine (HU.out _).mono ?_; rintro e w' ⟨rfl, hw⟩; subst hw)
            | (at_builtin; refine wpList_append_own _ rfl _ _ 32 rfl w1.heap.size 59 i0 (.agg #[.int .u32 0, .slice none 0 0]) 2 32 Tryd.underlying32 hi hz0 hz1 hz2 rfl (by decide) _ _ _ rfl (HV.out.1.alloc _) ⟨w'.heap.size, 0, none⟩ 1 1 [.int .u32 z, .slice none 0 0] rfl rfl (two_new _ _ _ _) (by intro u hu; simp at hu; rcases hu with rfl | rfl <;> rfl) (by unfold maxLen; omega) (by omega) (by have := HB.out.size; simp; omega) ?_; intro v3 w3 hown3 hgrow3 _; have HQ3 := Lib.hid (IsPs.push tyR_ne HV.out.1 HV.out.2.1 HV.out.2.2 hown3 hgrow3); have HB3 : Hid (Below w1.heap.size w1 w3) := (HB.out.alloc HB.out.size _).grown hgrow3 (by have := HB.out.size; simp; omega) (fun j hj => (HV.out.1.lt j hj).1); clear hown3 hgrow3))
          go_roundw
          case rel => exact ⟨k + 1, _, by omega, by go_num, HTK, HQ3, HB3⟩
          case measure => simp [intOf]; omega
      · have e64 : (C == 64) = false := by simpa using h64
        have hhd : ¬ x.headD 0 = 64 := fun e => h64 (by have := HC.out; rw [e] at this; exact this)
        have HT : Hid (takeL hexN ps x = if hexN x < 0 ∨ x.length ≠ 2 then none else some (addB ps (hexN x % 256))) := by
          show takeL hexN ps x = _
          unfold takeL
          rw [if_neg hhd]
        have HZ := hexN_lt x
        by_cases hneg : hexN x < 0
        · have HU : Hid (∀ V : World, Calls Tryd.prog 38 #[.string (bs x)] V fun e w' => ∃ z : Int, e = .returned (.tuple #[.int .u32 z, .bool false]) ∧ w' = V) := fun V => runhex_no _ V (by omega) hneg
          have HPL : Hid (PL = ([], 1)) := HPN.out (HFA.out (by rw [HT.out, if_pos (.inl hneg)]))
          clear hneg HZ hhd h64
          go_wp2_with (go_at_call 38; refine (HU.out _).mono ?_; rintro e w' ⟨z, rfl, hw⟩; subst hw)
          go_ret2
          rw [HPL.out]
          exact ⟨_, rfl, IsPs.nil _ _ _, HB1.out.trans (HB.out.mono HB1.out.size)⟩
        · have HU : Hid (∀ V : World, Calls Tryd.prog 38 #[.string (bs x)] V fun e w' => e = .returned (.tuple #[.int .u32 (hexN x), .bool true]) ∧ w' = V) := fun V => runhex_ok _ V (by omega) hneg
          by_cases h2 : x.length = 2
          · have HTK0 : Hid (foldW hexN [] (ws.take (k + 1)) = some (addB ps (hexN x % 256))) := HFS.out _ (by rw [HT.out, if_neg (by omega)])
            clear hhd h64 HT HFS HFA
            generalize hexN x = z at *
            rcases List.eq_nil_or_concat ps with rfl | ⟨qs, p, e⟩
            · have HTKE : addB [] (z % 256) = [(2147483648, [z % 256])] := rfl
              rw [HTKE] at HTK0
              obtain ⟨qs, p1, p2, HEQ⟩ : ∃ (qs : List Prt) (p1 : Int) (p2 : List Int), Hid (qs = [] ∧ p1 = 2147483648 ∧ p2 = []) := ⟨_, _, _, rfl, rfl, rfl⟩
              have HTK : Hid (foldW hexN [] (ws.take (k + 1)) = some (qs ++ [(p1, p2 ++ [z % 256])])) := by
                obtain ⟨rfl, rfl, rfl⟩ := HEQ.out
                exact HTK0
              have HLN : Hid (p2.length ≤ 1000000) := by
                obtain ⟨rfl, rfl, rfl⟩ := HEQ.out
                show 0 ≤ _; omega
              have hqn : qs.length ≤ 1000000 := by
                obtain ⟨rfl, rfl, rfl⟩ := HEQ.out
                show 0 ≤ _; omega
              have hltq : ((qs.length : Nat) : Int) < (qs.length : Int) + 1 := by omega
              obtain ⟨us, k1, k2, k3⟩ := HI.out
              have HV := Lib.hid (And.intro k1 (And.intro k2 k3))
              obtain ⟨ga, ca, rfl⟩ : ∃ ga ca, u5 = .slice ga 0 ca := by
                rcases k1.2 with ⟨rfl, _⟩ | ⟨g, cap, cur, rfl, _⟩
                · exact ⟨none, 0, rfl⟩
                · exact ⟨_, _, rfl⟩
              clear k1 k2 k3 HTK0 HTKE HI HF
              go_wp2_with (first
                | (go_at_call 38; refine (HU.out _).mono ?_; rintro e w' ⟨rfl, hw⟩; subst hw)
                | (at_builtin; refine wpList_append_own _ rfl _ _ 32 rfl w1.heap.size 59 i0 (.agg #[.int .u32 0, .slice none 0 0]) 2 32 Tryd.underlying32 hi hz0 hz1 hz2 rfl (by decide) _ 0 _ rfl (HV.out.1.alloc _) ⟨w'.heap.size, 0, none⟩ 1 1 [.int .u32 2147483648, .slice none 0 0] rfl rfl (two_new _ _ _ _) (by intro u hu; simp at hu; rcases hu with rfl | rfl <;> rfl) (by unfold maxLen; omega) (by omega) (by have := HB.out.size; simp; omega) ?_; intro v3 W hown3 hgrow3 _; have HQ3 : Hid (IsPs tyR W w1.heap.size v3 (qs ++ [(p1, p2)])) := (by obtain ⟨e1, e2, e3⟩ := HEQ.out; rw [e1, e2, e3]; exact IsPs.push tyR_ne HV.out.1 HV.out.2.1 HV.out.2.2 hown3 hgrow3); have HBW : Hid (Below w1.heap.size w1 W) := (HB.out.alloc HB.out.size _).grown hgrow3 (by have := HB.out.size; simp; omega) (fun j hj => (HV.out.1.lt j hj).1); clear hown3 hgrow3; obtain ⟨g, cap, vs, b, rfl, hg, k1, k2, k3, k4, c0, c1, f1W, hcap⟩ := HQ3.out.last; have f0W := k1.frozenAt (qs.length * 2); have HGL : Hid (g < W.heap.size) := (k1.lt g rfl).2; have HG0 : Hid (w1.heap.size ≤ g) := hg; have HSB : Hid (∀ w', Below W.heap.size W w' → RdB w' b p2) := (fun w' hb => (rdB_of_own k3).on hb); have HR := Lib.hid (And.intro k1 (And.intro k2 (And.intro k3 k4))); clear k1 k2 k3 k4 HQ3))
              refine wp_region_held_drew (S := PutS g (qs.length * 2) p1 W) (by kernel_rfl) (PutS.start c0) (fun hHeld => ?_)
              refine wpAnyH_take (i := 0) (oi := ?o0_17b) (v := ?v0_17b) ?ho0_17b (by kernel_rfl) (by kernel_rfl) (by kernel_rfl) ?q0_17b ?y0_17b (by assumption) ?rest0_17b
              case ho0_17b => (simp only [List.getElem?_toArray, List.getElem?_cons_succ, List.getElem?_cons_zero]; rfl)
              case q0_17b => exact fun _ _ _ h => h
              case y0_17b => (refine Or.inl ⟨by rfl, ?_⟩; intro w hSw; (try dsimp only at hSw); go_simp; try with_reducible rfl)
              try simp only [Act.put, List.setIfInBounds_toArray, List.set_cons_zero, List.set_cons_succ]
              refine wpAnyH_take (i := 1) (oi := ?o1_17b) (v := ?v1_17b) ?ho1_17b (by kernel_rfl) (by kernel_rfl) (by kernel_rfl) ?q1_17b ?y1_17b (by assumption) ?rest1_17b
              case ho1_17b => (simp only [List.getElem?_toArray, List.getElem?_cons_succ, List.getElem?_cons_zero]; rfl)
              case q1_17b => exact fun _ _ _ h => h
              case y1_17b => (refine Or.inl ⟨by rfl, ?_⟩; intro w hSw; (try dsimp only at hSw); go_simp; try with_reducible rfl)
              try simp only [Act.put, List.setIfInBounds_toArray, List.set_cons_zero, List.set_cons_succ]
              refine wpAnyH_take (i := 2) (oi := ?o2_17b) (v := ?v2_17b) ?ho2_17b (by kernel_rfl) (by kernel_rfl) (by kernel_rfl) ?q2_17b ?y2_17b (by assumption) ?rest2_17b
              case ho2_17b => (simp only [List.getElem?_toArray, List.getElem?_cons_succ, List.getElem?_cons_zero]; rfl)
              case q2_17b => exact fun _ _ _ h => h
              case y2_17b => (refine Or.inl ⟨by rfl, ?_⟩; intro w hSw; (try dsimp only at hSw); go_simp; try with_reducible rfl)
              try simp only [Act.put, List.setIfInBounds_toArray, List.set_cons_zero, List.set_cons_succ]
              refine wpAnyH_take (i := 3) (oi := ?o3_17b) (v := ?v3_17b) ?ho3_17b (by kernel_rfl) (by kernel_rfl) (by kernel_rfl) ?q3_17b ?y3_17b (by assumption) ?rest3_17b
              case ho3_17b => (simp only [List.getElem?_toArray, List.getElem?_cons_succ, List.getElem?_cons_zero]; rfl)
              case q3_17b => exact fun _ _ _ h => h
              case y3_17b => (refine Or.inl ⟨by rfl, ?_⟩; intro w hSw; (try dsimp only at hSw); go_simp; try with_reducible rfl)
              try simp only [Act.put, List.setIfInBounds_toArray, List.set_cons_zero, List.set_cons_succ]
              refine wpAnyH_take (i := 4) (oi := ?o4_17b) (v := ?v4_17b) ?ho4_17b (by kernel_rfl) (by kernel_rfl) (by kernel_rfl) ?q4_17b ?y4_17b (by assumption) ?rest4_17b
              case ho4_17b => (simp only [List.getElem?_toArray, List.getElem?_cons_succ, List.getElem?_cons_zero]; rfl)
              case q4_17b => exact fun _ _ _ h => h
              case y4_17b => (refine Or.inl ⟨by rfl, ?_⟩; intro w hSw; (try dsimp only at hSw); go_simp; try with_reducible rfl)
              try simp only [Act.put, List.setIfInBounds_toArray, List.set_cons_zero, List.set_cons_succ]
              refine wpAnyH_take (i := 5) (oi := ?o5_17b) (v := ?v5_17b) ?ho5_17b (by kernel_rfl) (by kernel_rfl) (by kernel_rfl) ?q5_17b ?y5_17b (by assumption) ?rest5_17b
              case ho5_17b => (simp only [List.getElem?_toArray, List.getElem?_cons_succ, List.getElem?_cons_zero]; rfl)
              case q5_17b => exact fun _ _ _ h => h
              case y5_17b => (refine Or.inl ⟨by rfl, ?_⟩; intro w hSw; (try dsimp only at hSw); go_simp; try with_reducible rfl)
              try simp only [Act.put, List.setIfInBounds_toArray, List.set_cons_zero, List.set_cons_succ]
              refine wpAnyH_take (i := 6) (oi := ?o6_17b) (v := ?v6_17b) ?ho6_17b (by kernel_rfl) (by kernel_rfl) (by kernel_rfl) ?q6_17b ?y6_17b (by assumption) ?rest6_17b
              case ho6_17b => (simp only [List.getElem?_toArray, List.getElem?_cons_succ, List.getElem?_cons_zero]; rfl)
              case q6_17b => exact fun _ _ _ h => h
              case y6_17b => (refine Or.inl ⟨by rfl, ?_⟩; intro w hSw; (try dsimp only at hSw); have q0 := hSw.cell; go_simp; try with_reducible rfl)
              try simp only [Act.put, List.setIfInBounds_toArray, List.set_cons_zero, List.set_cons_succ]
              refine wpAnyH_take (i := 8) (oi := ?o8_17b) (v := ?v8_17b) ?ho8_17b (by kernel_rfl) (by kernel_rfl) (by kernel_rfl) ?q8_17b ?y8_17b (by assumption) ?rest8_17b
              case ho8_17b => (simp only [List.getElem?_toArray, List.getElem?_cons_succ, List.getElem?_cons_zero]; rfl)
              case q8_17b => exact fun _ _ _ h => h
              case y8_17b => (refine Or.inl ⟨by rfl, ?_⟩; intro w hSw; (try dsimp only at hSw); go_simp; try with_reducible rfl)
              try simp only [Act.put, List.setIfInBounds_toArray, List.set_cons_zero, List.set_cons_succ]
              refine wpAnyH_take (i := 9) (oi := ?o9_17b) (v := ?v9_17b) ?ho9_17b (by kernel_rfl) (by kernel_rfl) (by kernel_rfl) ?q9_17b ?y9_17b (by assumption) ?rest9_17b
              case ho9_17b => (simp only [List.getElem?_toArray, List.getElem?_cons_succ, List.getElem?_cons_zero]; rfl)
              case q9_17b => exact fun _ _ _ h => h
              case y9_17b => (refine Or.inl ⟨by rfl, ?_⟩; intro w hSw; (try dsimp only at hSw); go_simp; try with_reducible rfl)
              try simp only [Act.put, List.setIfInBounds_toArray, List.set_cons_zero, List.set_cons_succ]
              refine wpAnyH_take (i := 10) (oi := ?o10_17b) (v := ?v10_17b) ?ho10_17b (by kernel_rfl) (by kernel_rfl) (by kernel_rfl) ?q10_17b ?y10_17b (by assumption) ?rest10_17b
              case ho10_17b => (simp only [List.getElem?_toArray, List.getElem?_cons_succ, List.getElem?_cons_zero]; rfl)
              case q10_17b => exact fun _ _ _ h => h
              case y10_17b => (refine Or.inl ⟨by rfl, ?_⟩; intro w hSw; (try dsimp only at hSw); go_simp; try with_reducible rfl)
              try simp only [Act.put, List.setIfInBounds_toArray, List.set_cons_zero, List.set_cons_succ]
              refine wpAnyH_take (i := 11) (oi := ?o11_17b) (v := ?v11_17b) ?ho11_17b (by kernel_rfl) (by kernel_rfl) (by kernel_rfl) ?q11_17b ?y11_17b (by assumption) ?rest11_17b
              case ho11_17b => (simp only [List.getElem?_toArray, List.getElem?_cons_succ, List.getElem?_cons_zero]; rfl)
              case q11_17b => exact fun _ _ _ h => h
              case y11_17b => (refine Or.inl ⟨by rfl, ?_⟩; intro w hSw; (try dsimp only at hSw); go_simp; try with_reducible rfl)
              try simp only [Act.put, List.setIfInBounds_toArray, List.set_cons_zero, List.set_cons_succ]
              refine wpAnyH_take (i := 14) (oi := ?o14_17b) (v := ?v14_17b) ?ho14_17b (by kernel_rfl) (by kernel_rfl) (by kernel_rfl) ?q14_17b ?y14_17b (by assumption) ?rest14_17b
              case ho14_17b => (simp only [List.getElem?_toArray, List.getElem?_cons_succ, List.getElem?_cons_zero]; rfl)
              case q14_17b => exact fun _ _ _ h => h
              case y14_17b => (refine Or.inl ⟨by rfl, ?_⟩; intro w hSw; (try dsimp only at hSw); go_simp; try with_reducible rfl)
              try simp only [Act.put, List.setIfInBounds_toArray, List.set_cons_zero, List.set_cons_succ]
              refine wpAnyH_take (i := 15) (oi := ?o15_17b) (v := ?v15_17b) ?ho15_17b (by kernel_rfl) (by kernel_rfl) (by kernel_rfl) ?q15_17b ?y15_17b (by assumption) ?rest15_17b
              case ho15_17b => (simp only [List.getElem?_toArray, List.getElem?_cons_succ, List.getElem?_cons_zero]; rfl)
              case q15_17b => exact fun _ _ _ h => h
              case y15_17b => (refine Or.inl ⟨by rfl, ?_⟩; intro w hSw; (try dsimp only at hSw); go_simp; try with_reducible rfl)
              try simp only [Act.put, List.setIfInBounds_toArray, List.set_cons_zero, List.set_cons_succ]
              refine wpAnyH_each (fuel := 4) [7, 12, 13, 16] (putE W.heap.size b p2 (z % 256)) rfl (by kernel_rfl) (fun w1 hb => PutS.on hHeld hb) ?stable17b ?step17b ?next17b
              rotate_left 2
              intro vE wE hbE hrE
              simp only [putSel, slotAt, Act.put, if_true, if_pos, List.getElem?_toArray, List.getElem?_cons_succ, List.getElem?_cons_zero, Option.bind_some, List.setIfInBounds_toArray, List.set_cons_zero, List.set_cons_succ, List.foldl_cons, List.foldl_nil]
              have hHeld := PutS.on hHeld hbE
              refine wpAnyH_ready (rs := [17]) (by kernel_rfl) (by simp) (AllReadyH.cons rfl (fun Kx hKx => ?_) AllReadyH.nil)
              obtain ⟨⟨a13, n13, k13, e13⟩, h13⟩ : putE W.heap.size b p2 (z % 256) 13 (vE 13) wE := hrE 13 (by simp)
              obtain ⟨B16, e16, h16⟩ : putE W.heap.size b p2 (z % 256) 16 (vE 16) wE := hrE 16 (by simp)
              have HBE : Hid (Below W.heap.size W wE) := (Below.refl _ _).drew.trans hbE
              rw [e13] at h13
              rw [e13, e16]
              have hbsE : W.heap.size ≤ wE.heap.size := HBE.out.size
              have h16n : ∀ (j : Nat) (u : Value), [Value.int .u8 (z % 256)][j]? = some u → wE.cell? ((⟨B16, 0, none⟩ : Addr).add j) = some u := by
                intro j u hj
                match j, hj with
                | 0, hj => simp at hj; subst hj; simpa [Addr.add] using h16
                | j + 1, hj => simp at hj
              have h1c : ∀ u ∈ [Value.int .u8 (z % 256)], u.oneCell' = true := by intro u hu; simp at hu; subst hu; rfl
              have hb1m : p2.length + 1 ≤ maxLen := by unfold maxLen; have := HLN.out; omega
              have hb2m : (p2.length + 1) * 1 ≤ 140737488355328 := by have := HLN.out; omega
              refine step_append_own rfl (.tmp 84) (.tmp 87) 30 rfl W.heap.size 5 i1 (.int .u8 0) 1 1 Tryd.underlying30 hj hy0 hy1 hy2 rfl (by decide) _ p2.length (bv p2) rfl h13 ⟨B16, 0, none⟩ 1 1 [.int .u8 (z % 256)] rfl rfl h16n h1c hb1m hb2m hbsE ?_
              intro v8 w8 hown8 hgr8 _
              obtain ⟨g8, c8, rfl⟩ := ownsRow_succ (k := p2.length) hown8
              have HO8 : Hid (w8.ownsRow W.heap.size tyB 1 (.slice (some ⟨g8, 0, none⟩) (p2.length + 1) c8) (p2 ++ [z % 256]).length (bv (p2 ++ [z % 256]))) := by
                show w8.ownsRow _ _ _ _ _ _
                rw [List.length_append]
                show w8.ownsRow W.heap.size tyB 1 (.slice (some ⟨g8, 0, none⟩) (p2.length + 1) c8) (p2.length + 1) (bv (p2 ++ [z % 256]))
                rw [show bv (p2 ++ [z % 256]) = bv p2 ++ [.int .u8 (z % 256)] from by simp [bv]]
                exact hown8
              have HB8 : Hid (Below W.heap.size W w8) := HBE.out.grown hgr8 hbsE (fun j hj => (h13.lt j hj).1)
              have hS8 : PutS g (qs.length * 2) p1 W w8 := ⟨Bar.of g HB8.out, by rw [HB8.out.cell HGL.out]; exact c0⟩
              clear hown8 hgr8 h16n h1c hb1m hb2m hbsE h13 h16 e13 e16 hrE hbE
              refine hKx.out _ _ hS8 (fun hHeld => ?_)
              clear hKx Kx
              refine wpAnyH_take (i := 18) (oi := ?o18_17b) (v := ?v18_17b) ?ho18_17b (by kernel_rfl) (by kernel_rfl) (by kernel_rfl) ?q18_17b ?y18_17b (by assumption) ?rest18_17b
              case ho18_17b => (simp only [List.getElem?_toArray, List.getElem?_cons_succ, List.getElem?_cons_zero]; rfl)
              case q18_17b => exact fun _ _ _ h => h
              case y18_17b => (refine Or.inl ⟨by rfl, ?_⟩; intro w hSw; (try dsimp only at hSw); go_simp; try with_reducible rfl)
              try simp only [Act.put, List.setIfInBounds_toArray, List.set_cons_zero, List.set_cons_succ]
              refine wpAnyH_take (i := 19) (oi := ?o19_17b) (v := ?v19_17b) ?ho19_17b (by kernel_rfl) (by kernel_rfl) (by kernel_rfl) ?q19_17b ?y19_17b (by assumption) ?rest19_17b
              case ho19_17b => (simp only [List.getElem?_toArray, List.getElem?_cons_succ, List.getElem?_cons_zero]; rfl)
              case q19_17b => exact fun _ _ _ h => h
              case y19_17b => (refine Or.inl ⟨by rfl, ?_⟩; intro w hSw; (try dsimp only at hSw); go_simp; try with_reducible rfl)
              try simp only [Act.put, List.setIfInBounds_toArray, List.set_cons_zero, List.set_cons_succ]
              refine wpAnyH_ready (rs := [20]) (by kernel_rfl) (by simp) (AllReadyH.cons rfl (fun Kx hKx => ?_) AllReadyH.nil)
              have s0 : w8.cell? ⟨g, qs.length * 2, none⟩ = some (.int .u32 p1) := by rw [HB8.out.cell HGL.out]; exact c0
              have s1 : w8.cell? ⟨g, qs.length * 2 + 1, none⟩ = some b := by rw [HB8.out.cell HGL.out]; exact c1
              have f0 : w8.frozen? ⟨g, qs.length * 2, none⟩ = false := by rw [World.frozen?_of_block (w := W) (HB8.out.block g HGL.out)]; exact f0W
              have f1 : w8.frozen? ⟨g, qs.length * 2 + 1, none⟩ = false := by rw [World.frozen?_of_block (w := W) (HB8.out.block g HGL.out)]; exact f1W
              have hb20 : PutS g (qs.length * 2) p1 W ((w8.setCell ⟨g, qs.length * 2, none⟩ (.int .u32 p1)).setCell ⟨g, qs.length * 2 + 1, none⟩ (.slice (some ⟨g8, 0, none⟩) (p2.length + 1) c8)) := by
                rw [setCell_id s0]
                refine ⟨hHeld.bar.trans (Bar.setCell g _ _ _), ?_⟩
                exact (World.cell?_setCell_other w8 _ _ _ (by intro h; have := congrArg Addr.off h; simp at this)).trans s0
              go_simp
              refine hKx.out _ _ hb20 (fun hHeld => ?_)
              clear hKx Kx hb20
              refine wpAnyH_done (by kernel_rfl) ?_ _
              rw [setCell_id s0]
              have HQ := Lib.hid (IsPs.byte tyR_ne HR.out.1 HR.out.2.1 HR.out.2.2.1 HR.out.2.2.2 (ps := qs) (p := (p1, p2)) (l' := p2 ++ [z % 256]) (b' := (.slice (some ⟨g8, 0, none⟩) (p2.length + 1) c8)) (own_mono HO8.out HBW.out.size) ⟨HB8.out.os, HB8.out.tape, HB8.out.output, HB8.out.size, fun k hk _ => HB8.out.block k hk⟩ (fun k hk => .inr (HO8.out.lt k hk).1))
              have HBF : Hid (Below w1.heap.size w1 (w8.setCell ⟨g, qs.length * 2 + 1, none⟩ (.slice (some ⟨g8, 0, none⟩) (p2.length + 1) c8))) := (HBW.out.trans (HB8.out.mono HBW.out.size)).setCell (p := ⟨g, qs.length * 2 + 1, none⟩) HG0.out _
              clear s0 s1 f0 f1 hHeld HO8 HB8 HBE
              generalize w8.setCell ⟨g, qs.length * 2 + 1, none⟩ (.slice (some ⟨g8, 0, none⟩) (p2.length + 1) c8) = W9 at *
              try go_wp2
              go_roundw
              case rel => exact ⟨k + 1, _, by omega, by go_num, HTK, HQ.out.1, HBF⟩
              case measure => simp [intOf]; omega
              · exact fun k u w1 w2 hb h => putE_on hb h
              · intro i hi o ho ev w1 hb hc ht hd
                have hbw : Below W.heap.size W w1 := (Below.refl _ _).drew.trans hb
                have hbs1 : W.heap.size ≤ w1.heap.size := hbw.size
                simp only [List.mem_cons, List.not_mem_nil, or_false] at hi
                rcases hi with rfl | rfl | rfl | rfl
                · simp only [List.getElem?_toArray, List.getElem?_cons_succ, List.getElem?_cons_zero, Option.some.injEq] at ho
                  subst ho
                  have hbs := hbs0
                  exact does_of (u := .slice (some ⟨w1.heap.size, 0, none⟩) 0 0) (w' := w1.alloc (.cells #[] 5)) (by go_simp) ⟨(Below.refl _ _).alloc (Nat.le_refl _) _, w1.heap.size, rfl, World.ownsRow_lit w1 #[] 0 hbs1 (by decide) rfl⟩
                · simp only [List.getElem?_toArray, List.getElem?_cons_succ, List.getElem?_cons_zero, Option.some.injEq] at ho
                  subst ho
                  have t82 : ev (.tmp 82) = .pointer (some ⟨g, qs.length * 2 + 1, none⟩) := ht 82 (by decide)
                  have cb : w1.cell? ⟨g, qs.length * 2 + 1, none⟩ = some b := by rw [hbw.cell HGL.out]; exact c1
                  exact does_of (u := b) (w' := w1) (by go_simp) ⟨Below.refl _ _, rfl⟩
                · simp only [List.getElem?_toArray, List.getElem?_cons_succ, List.getElem?_cons_zero, Option.some.injEq] at ho
                  subst ho
                  obtain ⟨B7, t78, h7⟩ : putE W.heap.size b p2 (z % 256) 7 (ev (.tmp 78)) w1 := hd ⟨7, .data⟩ (by simp) rfl (by simp) 78 rfl
                  have t83 : ev (.tmp 83) = b := hd ⟨12, .data⟩ (by simp) rfl (by simp) 83 rfl
                  rw [t78] at h7
                  obtain ⟨u, w2, hr, hb2, ho2, hsl⟩ := app_fresh w1 W.heap.size B7 b p2 h7 (HSB.out w1 hbw) (by have := HLN.out; omega) hbs1
                  exact does_of (by simp only [execOp, resolve, invoke, builtin, Sem.run_bind, Sem.run_pure, Result.andThen_ok, List.map_toArray, List.map_cons, List.map_nil, t78, t83, hr]) ⟨hb2, hsl, ho2⟩
                · simp only [List.getElem?_toArray, List.getElem?_cons_succ, List.getElem?_cons_zero, Option.some.injEq] at ho
                  subst ho
                  have t86 : ev (.tmp 86) = .int .u8 (z % 256) := ht 86 (by decide)
                  exact does_of (u := .slice (some ⟨w1.heap.size, 0, none⟩) 1 1) (w' := w1.alloc (.cells #[.int .u8 (z % 256)] 5)) (by go_simp) ⟨(Below.refl _ _).alloc (Nat.le_refl _) _, w1.heap.size, rfl, one_new w1 _ _ 0 _ rfl⟩
            · rw [List.concat_eq_append] at e
              subst e
              rw [addB_snoc] at HTK0
              obtain ⟨p1, p2⟩ := p
              have HTK : Hid (foldW hexN [] (ws.take (k + 1)) = some (qs ++ [(p1, p2 ++ [z % 256])])) := HTK0
              obtain ⟨g, cap, vs, b, rfl, hg, k1, k2, k3, k4, c0, c1, f1W, hcap⟩ := HI.out.last
              have f0W := k1.frozenAt (qs.length * 2)
              have HGL : Hid (g < wr.heap.size) := (k1.lt g rfl).2
              have HG0 : Hid (w1.heap.size ≤ g) := hg
              have HSB : Hid (∀ w', Below wr.heap.size wr w' → RdB w' b p2) := fun w' hb => (rdB_of_own k3).on hb
              have hls : sumL (qs ++ [(p1, p2)]) = sumL qs + p2.length := by rw [sumL_app]; simp [sumL]
              have HLN : Hid (p2.length ≤ 1000000) := by show _ ≤ _; omega
              have hqn : qs.length ≤ 1000000 := by simp at hbd; omega
              have HR := Lib.hid (And.intro k1 (And.intro k2 (And.intro k3 k4)))
              have HBW := HB
              have hltq : ((qs.length : Nat) : Int) < (qs.length : Int) + 1 := by omega
              have hne : ((((qs.length : Nat) : Int) + 1) == 0) = false := by rw [beq_eq_false_iff_ne]; omega
              clear k1 k2 k3 k4 HI HB hbd hls
              go_wp2_with (go_at_call 38; refine (HU.out _).mono ?_; rintro e W ⟨rfl, hw⟩; subst hw)
              refine wp_region_held_drew (S := PutS g (qs.length * 2) p1 W) (by kernel_rfl) (PutS.start c0) (fun hHeld => ?_)
              refine wpAnyH_take (i := 0) (oi := ?o0_17c) (v := ?v0_17c) ?ho0_17c (by kernel_rfl) (by kernel_rfl) (by kernel_rfl) ?q0_17c ?y0_17c (by assumption) ?rest0_17c
              case ho0_17c => (simp only [List.getElem?_toArray, List.getElem?_cons_succ, List.getElem?_cons_zero]; rfl)
              case q0_17c => exact fun _ _ _ h => h
              case y0_17c => (refine Or.inl ⟨by rfl, ?_⟩; intro w hSw; (try dsimp only at hSw); go_simp; try with_reducible rfl)
              try simp only [Act.put, List.setIfInBounds_toArray, List.set_cons_zero, List.set_cons_succ]
              refine wpAnyH_take (i := 1) (oi := ?o1_17c) (v := ?v1_17c) ?ho1_17c (by kernel_rfl) (by kernel_rfl) (by kernel_rfl) ?q1_17c ?y1_17c (by assumption) ?rest1_17c
              case ho1_17c => (simp only [List.getElem?_toArray, List.getElem?_cons_succ, List.getElem?_cons_zero]; rfl)
              case q1_17c => exact fun _ _ _ h => h
              case y1_17c => (refine Or.inl ⟨by rfl, ?_⟩; intro w hSw; (try dsimp only at hSw); go_simp; try with_reducible rfl)
              try simp only [Act.put, List.setIfInBounds_toArray, List.set_cons_zero, List.set_cons_succ]
              refine wpAnyH_take (i := 2) (oi := ?o2_17c) (v := ?v2_17c) ?ho2_17c (by kernel_rfl) (by kernel_rfl) (by kernel_rfl) ?q2_17c ?y2_17c (by assumption) ?rest2_17c
              case ho2_17c => (simp only [List.getElem?_toArray, List.getElem?_cons_succ, List.getElem?_cons_zero]; rfl)
              case q2_17c => exact fun _ _ _ h => h
              case y2_17c => (refine Or.inl ⟨by rfl, ?_⟩; intro w hSw; (try dsimp only at hSw); go_simp; try with_reducible rfl)
              try simp only [Act.put, List.setIfInBounds_toArray, List.set_cons_zero, List.set_cons_succ]
              refine wpAnyH_take (i := 3) (oi := ?o3_17c) (v := ?v3_17c) ?ho3_17c (by kernel_rfl) (by kernel_rfl) (by kernel_rfl) ?q3_17c ?y3_17c (by assumption) ?rest3_17c
              case ho3_17c => (simp only [List.getElem?_toArray, List.getElem?_cons_succ, List.getElem?_cons_zero]; rfl)
              case q3_17c => exact fun _ _ _ h => h
              case y3_17c => (refine Or.inl ⟨by rfl, ?_⟩; intro w hSw; (try dsimp only at hSw); go_simp; try with_reducible rfl)
              try simp only [Act.put, List.setIfInBounds_toArray, List.set_cons_zero, List.set_cons_succ]
              refine wpAnyH_take (i := 4) (oi := ?o4_17c) (v := ?v4_17c) ?ho4_17c (by kernel_rfl) (by kernel_rfl) (by kernel_rfl) ?q4_17c ?y4_17c (by assumption) ?rest4_17c
              case ho4_17c => (simp only [List.getElem?_toArray, List.getElem?_cons_succ, List.getElem?_cons_zero]; rfl)
              case q4_17c => exact fun _ _ _ h => h
              case y4_17c => (refine Or.inl ⟨by rfl, ?_⟩; intro w hSw; (try dsimp only at hSw); go_simp; try with_reducible rfl)
              try simp only [Act.put, List.setIfInBounds_toArray, List.set_cons_zero, List.set_cons_succ]
              refine wpAnyH_take (i := 5) (oi := ?o5_17c) (v := ?v5_17c) ?ho5_17c (by kernel_rfl) (by kernel_rfl) (by kernel_rfl) ?q5_17c ?y5_17c (by assumption) ?rest5_17c
              case ho5_17c => (simp only [List.getElem?_toArray, List.getElem?_cons_succ, List.getElem?_cons_zero]; rfl)
              case q5_17c => exact fun _ _ _ h => h
              case y5_17c => (refine Or.inl ⟨by rfl, ?_⟩; intro w hSw; (try dsimp only at hSw); go_simp; try with_reducible rfl)
              try simp only [Act.put, List.setIfInBounds_toArray, List.set_cons_zero, List.set_cons_succ]
              refine wpAnyH_take (i := 6) (oi := ?o6_17c) (v := ?v6_17c) ?ho6_17c (by kernel_rfl) (by kernel_rfl) (by kernel_rfl) ?q6_17c ?y6_17c (by assumption) ?rest6_17c
              case ho6_17c => (simp only [List.getElem?_toArray, List.getElem?_cons_succ, List.getElem?_cons_zero]; rfl)
              case q6_17c => exact fun _ _ _ h => h
              case y6_17c => (refine Or.inl ⟨by rfl, ?_⟩; intro w hSw; (try dsimp only at hSw); have q0 := hSw.cell; go_simp; try with_reducible rfl)
              try simp only [Act.put, List.setIfInBounds_toArray, List.set_cons_zero, List.set_cons_succ]
              refine wpAnyH_take (i := 8) (oi := ?o8_17c) (v := ?v8_17c) ?ho8_17c (by kernel_rfl) (by kernel_rfl) (by kernel_rfl) ?q8_17c ?y8_17c (by assumption) ?rest8_17c
              case ho8_17c => (simp only [List.getElem?_toArray, List.getElem?_cons_succ, List.getElem?_cons_zero]; rfl)
              case q8_17c => exact fun _ _ _ h => h
              case y8_17c => (refine Or.inl ⟨by rfl, ?_⟩; intro w hSw; (try dsimp only at hSw); go_simp; try with_reducible rfl)
              try simp only [Act.put, List.setIfInBounds_toArray, List.set_cons_zero, List.set_cons_succ]
              refine wpAnyH_take (i := 9) (oi := ?o9_17c) (v := ?v9_17c) ?ho9_17c (by kernel_rfl) (by kernel_rfl) (by kernel_rfl) ?q9_17c ?y9_17c (by assumption) ?rest9_17c
              case ho9_17c => (simp only [List.getElem?_toArray, List.getElem?_cons_succ, List.getElem?_cons_zero]; rfl)
              case q9_17c => exact fun _ _ _ h => h
              case y9_17c => (refine Or.inl ⟨by rfl, ?_⟩; intro w hSw; (try dsimp only at hSw); go_simp; try with_reducible rfl)
              try simp only [Act.put, List.setIfInBounds_toArray, List.set_cons_zero, List.set_cons_succ]
              refine wpAnyH_take (i := 10) (oi := ?o10_17c) (v := ?v10_17c) ?ho10_17c (by kernel_rfl) (by kernel_rfl) (by kernel_rfl) ?q10_17c ?y10_17c (by assumption) ?rest10_17c
              case ho10_17c => (simp only [List.getElem?_toArray, List.getElem?_cons_succ, List.getElem?_cons_zero]; rfl)
              case q10_17c => exact fun _ _ _ h => h
              case y10_17c => (refine Or.inl ⟨by rfl, ?_⟩; intro w hSw; (try dsimp only at hSw); go_simp; try with_reducible rfl)
              try simp only [Act.put, List.setIfInBounds_toArray, List.set_cons_zero, List.set_cons_succ]
              refine wpAnyH_take (i := 11) (oi := ?o11_17c) (v := ?v11_17c) ?ho11_17c (by kernel_rfl) (by kernel_rfl) (by kernel_rfl) ?q11_17c ?y11_17c (by assumption) ?rest11_17c
              case ho11_17c => (simp only [List.getElem?_toArray, List.getElem?_cons_succ, List.getElem?_cons_zero]; rfl)
              case q11_17c => exact fun _ _ _ h => h
              case y11_17c => (refine Or.inl ⟨by rfl, ?_⟩; intro w hSw; (try dsimp only at hSw); go_simp; try with_reducible rfl)
              try simp only [Act.put, List.setIfInBounds_toArray, List.set_cons_zero, List.set_cons_succ]
              refine wpAnyH_take (i := 14) (oi := ?o14_17c) (v := ?v14_17c) ?ho14_17c (by kernel_rfl) (by kernel_rfl) (by kernel_rfl) ?q14_17c ?y14_17c (by assumption) ?rest14_17c
              case ho14_17c => (simp only [List.getElem?_toArray, List.getElem?_cons_succ, List.getElem?_cons_zero]; rfl)
              case q14_17c => exact fun _ _ _ h => h
              case y14_17c => (refine Or.inl ⟨by rfl, ?_⟩; intro w hSw; (try dsimp only at hSw); go_simp; try with_reducible rfl)
              try simp only [Act.put, List.setIfInBounds_toArray, List.set_cons_zero, List.set_cons_succ]
              refine wpAnyH_take (i := 15) (oi := ?o15_17c) (v := ?v15_17c) ?ho15_17c (by kernel_rfl) (by kernel_rfl) (by kernel_rfl) ?q15_17c ?y15_17c (by assumption) ?rest15_17c
              case ho15_17c => (simp only [List.getElem?_toArray, List.getElem?_cons_succ, List.getElem?_cons_zero]; rfl)
              case q15_17c => exact fun _ _ _ h => h
              case y15_17c => (refine Or.inl ⟨by rfl, ?_⟩; intro w hSw; (try dsimp only at hSw); go_simp; try with_reducible rfl)
              try simp only [Act.put, List.setIfInBounds_toArray, List.set_cons_zero, List.set_cons_succ]
              refine wpAnyH_each (fuel := 4) [7, 12, 13, 16] (putE W.heap.size b p2 (z % 256)) rfl (by kernel_rfl) (fun w1 hb => PutS.on hHeld hb) ?stable17c ?step17c ?next17c
              rotate_left 2
              intro vE wE hbE hrE
              simp only [putSel, slotAt, Act.put, if_true, if_pos, List.getElem?_toArray, List.getElem?_cons_succ, List.getElem?_cons_zero, Option.bind_some, List.setIfInBounds_toArray, List.set_cons_zero, List.set_cons_succ, List.foldl_cons, List.foldl_nil]
              have hHeld := PutS.on hHeld hbE
              refine wpAnyH_ready (rs := [17]) (by kernel_rfl) (by simp) (AllReadyH.cons rfl (fun Kx hKx => ?_) AllReadyH.nil)
              obtain ⟨⟨a13, n13, k13, e13⟩, h13⟩ : putE W.heap.size b p2 (z % 256) 13 (vE 13) wE := hrE 13 (by simp)
              obtain ⟨B16, e16, h16⟩ : putE W.heap.size b p2 (z % 256) 16 (vE 16) wE := hrE 16 (by simp)
              have HBE : Hid (Below W.heap.size W wE) := (Below.refl _ _).drew.trans hbE
              rw [e13] at h13
              rw [e13, e16]
              have hbsE : W.heap.size ≤ wE.heap.size := HBE.out.size
              have h16n : ∀ (j : Nat) (u : Value), [Value.int .u8 (z % 256)][j]? = some u → wE.cell? ((⟨B16, 0, none⟩ : Addr).add j) = some u := by
                intro j u hj
                match j, hj with
                | 0, hj => simp at hj; subst hj; simpa [Addr.add] using h16
                | j + 1, hj => simp at hj
              have h1c : ∀ u ∈ [Value.int .u8 (z % 256)], u.oneCell' = true := by intro u hu; simp at hu; subst hu; rfl
              have hb1m : p2.length + 1 ≤ maxLen := by unfold maxLen; have := HLN.out; omega
              have hb2m : (p2.length + 1) * 1 ≤ 140737488355328 := by have := HLN.out; omega
              refine step_append_own rfl (.tmp 84) (.tmp 87) 30 rfl W.heap.size 5 i1 (.int .u8 0) 1 1 Tryd.underlying30 hj hy0 hy1 hy2 rfl (by decide) _ p2.length (bv p2) rfl h13 ⟨B16, 0, none⟩ 1 1 [.int .u8 (z % 256)] rfl rfl h16n h1c hb1m hb2m hbsE ?_
              intro v8 w8 hown8 hgr8 _
              obtain ⟨g8, c8, rfl⟩ := ownsRow_succ (k := p2.length) hown8
              have HO8 : Hid (w8.ownsRow W.heap.size tyB 1 (.slice (some ⟨g8, 0, none⟩) (p2.length + 1) c8) (p2 ++ [z % 256]).length (bv (p2 ++ [z % 256]))) := by
                show w8.ownsRow _ _ _ _ _ _
                rw [List.length_append]
                show w8.ownsRow W.heap.size tyB 1 (.slice (some ⟨g8, 0, none⟩) (p2.length + 1) c8) (p2.length + 1) (bv (p2 ++ [z % 256]))
                rw [show bv (p2 ++ [z % 256]) = bv p2 ++ [.int .u8 (z % 256)] from by simp [bv]]
                exact hown8
              have HB8 : Hid (Below W.heap.size W w8) := HBE.out.grown hgr8 hbsE (fun j hj => (h13.lt j hj).1)
              have hS8 : PutS g (qs.length * 2) p1 W w8 := ⟨Bar.of g HB8.out, by rw [HB8.out.cell HGL.out]; exact c0⟩
              clear hown8 hgr8 h16n h1c hb1m hb2m hbsE h13 h16 e13 e16 hrE hbE
              refine hKx.out _ _ hS8 (fun hHeld => ?_)
              clear hKx Kx
              refine wpAnyH_take (i := 18) (oi := ?o18_17c) (v := ?v18_17c) ?ho18_17c (by kernel_rfl) (by kernel_rfl) (by kernel_rfl) ?q18_17c ?y18_17c (by assumption) ?rest18_17c
              case ho18_17c => (simp only [List.getElem?_toArray, List.getElem?_cons_succ, List.getElem?_cons_zero]; rfl)
              case q18_17c => exact fun _ _ _ h => h
              case y18_17c => (refine Or.inl ⟨by rfl, ?_⟩; intro w hSw; (try dsimp only at hSw); go_simp; try with_reducible rfl)
              try simp only [Act.put, List.setIfInBounds_toArray, List.set_cons_zero, List.set_cons_succ]
              refine wpAnyH_take (i := 19) (oi := ?o19_17c) (v := ?v19_17c) ?ho19_17c (by kernel_rfl) (by kernel_rfl) (by kernel_rfl) ?q19_17c ?y19_17c (by assumption) ?rest19_17c
              case ho19_17c => (simp only [List.getElem?_toArray, List.getElem?_cons_succ, List.getElem?_cons_zero]; rfl)
              case q19_17c => exact fun _ _ _ h => h
              case y19_17c => (refine Or.inl ⟨by rfl, ?_⟩; intro w hSw; (try dsimp only at hSw); go_simp; try with_reducible rfl)
              try simp only [Act.put, List.setIfInBounds_toArray, List.set_cons_zero, List.set_cons_succ]
              refine wpAnyH_ready (rs := [20]) (by kernel_rfl) (by simp) (AllReadyH.cons rfl (fun Kx hKx => ?_) AllReadyH.nil)
              have s0 : w8.cell? ⟨g, qs.length * 2, none⟩ = some (.int .u32 p1) := by rw [HB8.out.cell HGL.out]; exact c0
              have s1 : w8.cell? ⟨g, qs.length * 2 + 1, none⟩ = some b := by rw [HB8.out.cell HGL.out]; exact c1
              have f0 : w8.frozen? ⟨g, qs.length * 2, none⟩ = false := by rw [World.frozen?_of_block (w := W) (HB8.out.block g HGL.out)]; exact f0W
              have f1 : w8.frozen? ⟨g, qs.length * 2 + 1, none⟩ = false := by rw [World.frozen?_of_block (w := W) (HB8.out.block g HGL.out)]; exact f1W
              have hb20 : PutS g (qs.length * 2) p1 W ((w8.setCell ⟨g, qs.length * 2, none⟩ (.int .u32 p1)).setCell ⟨g, qs.length * 2 + 1, none⟩ (.slice (some ⟨g8, 0, none⟩) (p2.length + 1) c8)) := by
                rw [setCell_id s0]
                refine ⟨hHeld.bar.trans (Bar.setCell g _ _ _), ?_⟩
                exact (World.cell?_setCell_other w8 _ _ _ (by intro h; have := congrArg Addr.off h; simp at this)).trans s0
              go_simp
              refine hKx.out _ _ hb20 (fun hHeld => ?_)
              clear hKx Kx hb20
              refine wpAnyH_done (by kernel_rfl) ?_ _
              rw [setCell_id s0]
              have HQ := Lib.hid (IsPs.byte tyR_ne HR.out.1 HR.out.2.1 HR.out.2.2.1 HR.out.2.2.2 (ps := qs) (p := (p1, p2)) (l' := p2 ++ [z % 256]) (b' := (.slice (some ⟨g8, 0, none⟩) (p2.length + 1) c8)) (own_mono HO8.out HBW.out.size) ⟨HB8.out.os, HB8.out.tape, HB8.out.output, HB8.out.size, fun k hk _ => HB8.out.block k hk⟩ (fun k hk => .inr (HO8.out.lt k hk).1))
              have HBF : Hid (Below w1.heap.size w1 (w8.setCell ⟨g, qs.length * 2 + 1, none⟩ (.slice (some ⟨g8, 0, none⟩) (p2.length + 1) c8))) := (HBW.out.trans (HB8.out.mono HBW.out.size)).setCell (p := ⟨g, qs.length * 2 + 1, none⟩) HG0.out _
              clear s0 s1 f0 f1 hHeld HO8 HB8 HBE
              generalize w8.setCell ⟨g, qs.length * 2 + 1, none⟩ (.slice (some ⟨g8, 0, none⟩) (p2.length + 1) c8) = W9 at *
              try go_wp2
              go_roundw
              case rel => exact ⟨k + 1, _, by omega, by go_num, HTK, HQ.out.1, HBF⟩
              case measure => simp [intOf]; omega
              · exact fun k u w1 w2 hb h => putE_on hb h
              · intro i hi o ho ev w1 hb hc ht hd
                have hbw : Below W.heap.size W w1 := (Below.refl _ _).drew.trans hb
                have hbs1 : W.heap.size ≤ w1.heap.size := hbw.size
                simp only [List.mem_cons, List.not_mem_nil, or_false] at hi
                rcases hi with rfl | rfl | rfl | rfl
                · simp only [List.getElem?_toArray, List.getElem?_cons_succ, List.getElem?_cons_zero, Option.some.injEq] at ho
                  subst ho
                  have hbs := hbs0
                  exact does_of (u := .slice (some ⟨w1.heap.size, 0, none⟩) 0 0) (w' := w1.alloc (.cells #[] 5)) (by go_simp) ⟨(Below.refl _ _).alloc (Nat.le_refl _) _, w1.heap.size, rfl, World.ownsRow_lit w1 #[] 0 hbs1 (by decide) rfl⟩
                · simp only [List.getElem?_toArray, List.getElem?_cons_succ, List.getElem?_cons_zero, Option.some.injEq] at ho
                  subst ho
                  have t82 : ev (.tmp 82) = .pointer (some ⟨g, qs.length * 2 + 1, none⟩) := ht 82 (by decide)
                  have cb : w1.cell? ⟨g, qs.length * 2 + 1, none⟩ = some b := by rw [hbw.cell HGL.out]; exact c1
                  exact does_of (u := b) (w' := w1) (by go_simp) ⟨Below.refl _ _, rfl⟩
                · simp only [List.getElem?_toArray, List.getElem?_cons_succ, List.getElem?_cons_zero, Option.some.injEq] at ho
                  subst ho
                  obtain ⟨B7, t78, h7⟩ : putE W.heap.size b p2 (z % 256) 7 (ev (.tmp 78)) w1 := hd ⟨7, .data⟩ (by simp) rfl (by simp) 78 rfl
                  have t83 : ev (.tmp 83) = b := hd ⟨12, .data⟩ (by simp) rfl (by simp) 83 rfl
                  rw [t78] at h7
                  obtain ⟨u, w2, hr, hb2, ho2, hsl⟩ := app_fresh w1 W.heap.size B7 b p2 h7 (HSB.out w1 hbw) (by have := HLN.out; omega) hbs1
                  exact does_of (by simp only [execOp, resolve, invoke, builtin, Sem.run_bind, Sem.run_pure, Result.andThen_ok, List.map_toArray, List.map_cons, List.map_nil, t78, t83, hr]) ⟨hb2, hsl, ho2⟩
                · simp only [List.getElem?_toArray, List.getElem?_cons_succ, List.getElem?_cons_zero, Option.some.injEq] at ho
                  subst ho
                  have t86 : ev (.tmp 86) = .int .u8 (z % 256) := ht 86 (by decide)
                  exact does_of (u := .slice (some ⟨w1.heap.size, 0, none⟩) 1 1) (w' := w1.alloc (.cells #[.int .u8 (z % 256)] 5)) (by go_simp) ⟨(Below.refl _ _).alloc (Nat.le_refl _) _, w1.heap.size, rfl, one_new w1 _ _ 0 _ rfl⟩
          · have hl2 : (((x.length : Nat) : Int) != 2) = true := by rw [bne_iff_ne]; omega
            have HPL : Hid (PL = ([], 1)) := HPN.out (HFA.out (by rw [HT.out, if_pos (.inr h2)]))
            clear hneg hhd h64
            generalize hexN x = z at *
            go_wp2_with (go_at_call 38; refine (HU.out _).mono ?_; rintro e w' ⟨rfl, hw⟩; subst hw)
            go_ret2
            rw [HPL.out]
            exact ⟨_, rfl, IsPs.nil _ _ _, HB1.out.trans (HB.out.mono HB1.out.size)⟩
    · obtain rfl : k = ws.length := by omega
      rw [List.take_length] at HF
      have HPL := HPS.out ps HF.out
      have hbd := foldW_bd HF.out
      have hsum0 : sumL [] = 0 := rfl
      rw [hsum0] at hbd
      simp only [List.length_nil, Nat.zero_add] at hbd
      have HLG : Hid (∀ V v, RdPs V v ps → Calls Tryd.prog 25 #[v] V fun e w' => e = .returned (.bool (longL ps)) ∧ w' = V) := fun V v h => rlong_any v ps V h (by unfold maxLen; omega) (fun p hp => by
        have : p.2.length ≤ sumL ps := by
          obtain ⟨a, b, rfl⟩ := List.append_of_mem hp
          rw [sumL_app]
          simp only [sumL, List.map_cons, List.sum_cons]
          omega
        unfold maxLen; omega)
      have HRD := Lib.hid HI.out.rd
      cases hlg : longL ps
      · rw [hlg] at HLG HPL
        go_wp2_with (go_at_call 25; refine (HLG.out _ _ HRD.out).mono ?_; rintro e w' ⟨rfl, hw⟩; subst hw)
        go_ret2
        rw [HPL]
        exact ⟨_, rfl, isPs_mono HI.out HB1.out.size, HB1.out.trans (HB.out.mono HB1.out.size)⟩
      · rw [hlg] at HLG HPL
        go_wp2_with (go_at_call 25; refine (HLG.out _ _ HRD.out).mono ?_; rintro e w' ⟨rfl, hw⟩; subst hw)
        go_ret2
        rw [HPL]
        exact ⟨_, rfl, IsPs.nil _ _ _, HB1.out.trans (HB.out.mono HB1.out.size)⟩
end Go.Proofs.YtcigceaadkjenaaDoor
