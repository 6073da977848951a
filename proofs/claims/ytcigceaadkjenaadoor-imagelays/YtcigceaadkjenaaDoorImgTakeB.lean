/- Layer 15: take, at a word that is a byte. -/
import Derived.Test.YtcigceaadkjenaaDoorImgTake
namespace Go.Proofs.YtcigceaadkjenaaDoor
open Go.RowKit
set_option linter.unusedVariables false
set_option maxRecDepth 100000

theorem one_new (w : World) (x : Value) (t : TypeId) : ∀ (j : Nat) (u : Value), [x][j]? = some u → (w.alloc (.cells #[x] t)).cell? ((⟨w.heap.size, 0, none⟩ : Addr).add j) = some u := by
  intro j u hj
  match j, hj with
  | 0, hj => simp at hj; subst hj; simp [Addr.add]
  | j + 1, hj => simp at hj

set_option maxHeartbeats 2000000 in
theorem take_err (base : Nat) (v : Value) (ps : List Prt) (x : List UInt8) (w : World) (hn : ps.length ≤ 1000000) (hx : x.length ≤ 70000) (hat : ¬ x.headD 0 = 64) (hbad : hexN x < 0 ∨ x.length ≠ 2) :
    Calls Tryd.prog 36 #[v, .string (bs x)] w fun e w' => TakeR base w (takeL hexN ps x) e w' := by
  have HP : Hid (∀ W : World, Calls Tryd.prog 53 #[.string (bs x), .string ⟨#[64]⟩] W fun e w' => e = .returned (.tuple #[.string (bs x), .bool false]) ∧ w' = W) := fun W => by
    have := ipre_any x W
    rwa [if_neg hat, decide_eq_false hat] at this
  have HT : Hid (takeL hexN ps x = none) := by
    show takeL hexN ps x = _
    unfold takeL
    rw [if_neg hat, if_pos hbad]
  have HU : Hid (∀ W : World, Calls Tryd.prog 54 #[.string (bs x)] W fun e w' => ∃ z c : Int, e = .returned (.tuple #[.int .u32 z, .int .i64 c]) ∧ ((hexN x < 0 ∧ z = 0 ∧ c = 1) ∨ (0 ≤ hexN x ∧ z = hexN x ∧ c = 0)) ∧ w' = W) := fun W => unhex_any x W hx
  by_cases hneg : hexN x < 0
  · have HU2 : Hid (∀ W : World, Calls Tryd.prog 54 #[.string (bs x)] W fun e w' => e = .returned (.tuple #[.int .u32 0, .int .i64 1]) ∧ w' = W) := fun W => (HU.out W).mono (by
      rintro e w' ⟨z, c, rfl, ⟨a, rfl, rfl⟩ | ⟨a, rfl, rfl⟩, rfl⟩
      · exact ⟨rfl, rfl⟩
      · omega)
    clear HU hneg hbad hat hx
    go_enter Tryd.func36, Tryd.ntmps36
    go_wp2_with (first
      | (go_at_call 53; refine (HP.out _).mono ?_; rintro e w' ⟨rfl, hw⟩; have hw := hw.symm; subst hw)
      | (go_at_call 54; refine (HU2.out _).mono ?_; rintro e w' ⟨rfl, hw⟩; have hw := hw.symm; subst hw))
    go_ret2
    rw [HT.out]
    exact ⟨Below.refl _ _, Kp2.refl _ _, rfl⟩
  · have HU2 : Hid (∀ W : World, Calls Tryd.prog 54 #[.string (bs x)] W fun e w' => e = .returned (.tuple #[.int .u32 (hexN x), .int .i64 0]) ∧ w' = W) := fun W => (HU.out W).mono (by
      rintro e w' ⟨z, c, rfl, ⟨a, rfl, rfl⟩ | ⟨a, rfl, rfl⟩, rfl⟩
      · omega
      · exact ⟨rfl, rfl⟩)
    have hln : (((x.length : Nat) : Int) != 2) = true := by
      rw [bne_iff_ne]
      rcases hbad with h | h
      · omega
      · omega
    have hsz : (bs x).size = x.length := bs_size x
    clear HU hneg hbad hat hx
    generalize hexN x = z at HU2
    go_enter Tryd.func36, Tryd.ntmps36
    go_wp2_with (first
      | (go_at_call 53; refine (HP.out _).mono ?_; rintro e w' ⟨rfl, hw⟩; have hw := hw.symm; subst hw)
      | (go_at_call 54; refine (HU2.out _).mono ?_; rintro e w' ⟨rfl, hw⟩; have hw := hw.symm; subst hw))
    go_ret2
    rw [HT.out]
    exact ⟨Below.refl _ _, Kp2.refl _ _, rfl⟩

set_option maxHeartbeats 2000000 in
/-- A byte more of a part. -/
theorem take_more (base : Nat) (v : Value) (ps : List Prt) (p : Prt) (x : List UInt8) (w : World) (hb : base ≤ w.heap.size) (h : IsPs tyP w base v (ps ++ [p])) (hn : ps.length ≤ 1000000) (hm : p.2.length ≤ 1000000) (hlen : x.length = 2) (hat : ¬ x.headD 0 = 64) (hpos : ¬ hexN x < 0) :
    Calls Tryd.prog 36 #[v, .string (bs x)] w fun e w' => TakeR base w (takeL hexN (ps ++ [p]) x) e w' := by
  obtain ⟨i1, hj, hy0, hy1, hy2⟩ := info_parts info_byte
  have HP : Hid (∀ W : World, Calls Tryd.prog 53 #[.string (bs x), .string ⟨#[64]⟩] W fun e w' => e = .returned (.tuple #[.string (bs x), .bool false]) ∧ w' = W) := fun W => by
    have := ipre_any x W
    rwa [if_neg hat, decide_eq_false hat] at this
  have HT : Hid (takeL hexN (ps ++ [p]) x = some (ps ++ [(p.1, p.2 ++ [hexN x % 256])])) := by
    show takeL hexN (ps ++ [p]) x = _
    unfold takeL
    rw [if_neg hat, if_neg (by omega), addB_snoc]
  have HU2 : Hid (∀ W : World, Calls Tryd.prog 54 #[.string (bs x)] W fun e w' => e = .returned (.tuple #[.int .u32 (hexN x), .int .i64 0]) ∧ w' = W) := fun W => (unhex_any x W (by omega)).mono (by
    rintro e w' ⟨z, c, rfl, ⟨a, rfl, rfl⟩ | ⟨a, rfl, rfl⟩, rfl⟩
    · omega
    · exact ⟨rfl, rfl⟩)
  have hsz : (bs x).size = 2 := by rw [bs_size, hlen]
  obtain ⟨g, cap, vs, b, rfl, hg, k1, k2, k3, k4, c0, c1, f1, hcap⟩ := h.last
  have HR := Lib.hid (And.intro k1 (And.intro k2 (And.intro k3 k4)))
  have HZ := hexN_lt x
  clear h k1 k2 k3 k4 hat hlen
  generalize hexN x = z at HU2 HT HZ hpos
  have hne : ((((ps.length : Nat) : Int) + 1) == 0) = false := by rw [beq_eq_false_iff_ne]; omega
  go_enter Tryd.func36, Tryd.ntmps36
  go_wp2_with (first
    | (go_at_call 53; refine (HP.out _).mono ?_; rintro e w' ⟨rfl, hw⟩; have hw := hw.symm; subst hw)
    | (go_at_call 54; refine (HU2.out _).mono ?_; rintro e w' ⟨rfl, hw⟩; have hw := hw.symm; subst hw)
    | (at_builtin; refine wpList_append_place rfl _ _ 30 rfl base 5 i1 (.int .u8 0) 1 1 Tryd.underlying30 hj hy0 hy1 hy2 rfl (by decide) _ _ _ rfl (HR.out.2.2.1.alloc _) ⟨w.heap.size, 0, none⟩ 1 1 [.int .u8 (z % 256)] rfl rfl (one_new _ _ _) (by intro u hu; simp at hu; subst hu; rfl) (by unfold maxLen; omega) (by omega) (by simp; omega) ?_; intro v' w1 hown' hgrow hplace; have HB := Lib.hid (IsPs.byte tyP_ne (HR.out.1.alloc _) (RowsP.kept HR.out.2.1 (World.grownBy_alloc _ _ none) (fun c _ => by cases c.ownBlock <;> simp)) (HR.out.2.2.1.alloc _) HR.out.2.2.2 (l' := p.2 ++ [z % 256]) (by rw [List.length_append]; show w1.ownsRow base tyB 1 v' (p.2.length + 1) (bv (p.2 ++ [z % 256])); rw [show bv (p.2 ++ [z % 256]) = bv p.2 ++ [.int .u8 (z % 256)] from by simp [bv]]; exact hown') hgrow hplace); obtain ⟨g', cap', rfl⟩ := ownsRow_succ (k := p.2.length) hown'; have f2 := HB.out.2.2.1; have c2 := HB.out.2.2.2.1))
  go_ret2
  rw [HT.out]
  obtain ⟨q1, q2, q3, q4, cs, q5⟩ := HB.out
  refine ⟨?_, ?_, _, rfl, q1⟩
  · exact (((Below.refl _ w).alloc hb _).grown hgrow (by simp; omega) (fun k hk => (HR.out.2.2.1.lt k hk).1)).grown q2 (by have := hgrow.size; simp at this; omega) (fun k hk => by cases hk; exact hg)
  · refine (((Kp2.refl _ w).alloc _).grown hgrow fun k hk => ?_).grown q2 fun k hk => ?_
    · obtain ⟨cs, hc⟩ := own_kind (HR.out.2.2.1.alloc _) hk
      exact ⟨cs, _, _, hc, .inl rfl⟩
    · cases hk
      exact ⟨cs, _, _, q5, .inr rfl⟩
set_option maxHeartbeats 2000000 in
/-- A byte ahead of any part. -/
theorem take_first (base : Nat) (v : Value) (x : List UInt8) (w : World) (hb : base ≤ w.heap.size) (h : IsPs tyP w base v []) (hlen : x.length = 2) (hat : ¬ x.headD 0 = 64) (hpos : ¬ hexN x < 0) :
    Calls Tryd.prog 36 #[v, .string (bs x)] w fun e w' => TakeR base w (takeL hexN [] x) e w' := by
  obtain ⟨i1, hj, hy0, hy1, hy2⟩ := info_parts info_byte
  have HP : Hid (∀ W : World, Calls Tryd.prog 53 #[.string (bs x), .string ⟨#[64]⟩] W fun e w' => e = .returned (.tuple #[.string (bs x), .bool false]) ∧ w' = W) := fun W => by
    have := ipre_any x W
    rwa [if_neg hat, decide_eq_false hat] at this
  have HT : Hid (takeL hexN [] x = some [(2147483648, [hexN x % 256])]) := by
    show takeL hexN [] x = _
    unfold takeL
    rw [if_neg hat, if_neg (by omega), addB_nil]
  have HU2 : Hid (∀ W : World, Calls Tryd.prog 54 #[.string (bs x)] W fun e w' => e = .returned (.tuple #[.int .u32 (hexN x), .int .i64 0]) ∧ w' = W) := fun W => (unhex_any x W (by omega)).mono (by
    rintro e w' ⟨z, c, rfl, ⟨a, rfl, rfl⟩ | ⟨a, rfl, rfl⟩, rfl⟩
    · omega
    · exact ⟨rfl, rfl⟩)
  have hsz : (bs x).size = 2 := by rw [bs_size, hlen]
  obtain ⟨i0, hi, hz0, hz1, hz2⟩ := info_parts info_part
  obtain ⟨us, k1, k2, k3⟩ := h
  obtain ⟨av, cv, rfl⟩ : ∃ av cv, v = .slice av 0 cv := by
    rcases k1.2 with ⟨rfl, _⟩ | ⟨g, cap, cur, rfl, _⟩
    · exact ⟨_, _, rfl⟩
    · exact ⟨_, _, rfl⟩
  have HV := Lib.hid (And.intro k1 (And.intro k2 k3))
  have HZ := hexN_lt x
  clear k1 k2 k3 hat hlen
  generalize hexN x = z at HU2 HT HZ hpos
  go_enter Tryd.func36, Tryd.ntmps36
  go_wp2_with (first
    | (go_at_call 53; refine (HP.out _).mono ?_; rintro e w' ⟨rfl, hw⟩; have hw := hw.symm; subst hw)
    | (go_at_call 54; refine (HU2.out _).mono ?_; rintro e w' ⟨rfl, hw⟩; have hw := hw.symm; subst hw)
    | (at_builtin; refine wpList_append_own _ rfl _ _ 22 rfl base 51 i0 (.agg #[.int .u32 0, .slice none 0 0]) 2 32 Tryd.underlying22 hi hz0 hz1 hz2 rfl (by decide) _ _ _ rfl (HV.out.1.alloc _) ⟨w.heap.size, 0, none⟩ 1 1 [.int .u32 2147483648, .slice none 0 0] rfl rfl (two_new _ _ _ _) (by intro u hu; simp at hu; rcases hu with rfl | rfl <;> rfl) (by unfold maxLen; simp) (by simp) (by simp; omega) ?_; intro v0 w0 hown0 hgrow0 _; have hP0 : IsPs tyP w0 base v0 ([] ++ [(2147483648, [])]) := IsPs.push tyP_ne HV.out.1 HV.out.2.1 HV.out.2.2 hown0 hgrow0; obtain ⟨g, cap, vs, b, rfl, hg, k1, k2, k3, k4, c0, c1, f1, hcap⟩ := hP0.last; have HR := Lib.hid (And.intro k1 (And.intro k2 (And.intro k3 k4))); clear k1 k2 k3 k4 hown0; simp only [List.length_nil, Nat.zero_mul, Nat.zero_add] at c0 c1 f1 hcap ⊢)
    | (at_builtin; refine wpList_append_place rfl _ _ 30 rfl base 5 i1 (.int .u8 0) 1 1 Tryd.underlying30 hj hy0 hy1 hy2 rfl (by decide) _ _ _ rfl (HR.out.2.2.1.alloc _) ⟨w0.heap.size, 0, none⟩ 1 1 [.int .u8 (z % 256)] rfl rfl (one_new _ _ _) (by intro u hu; simp at hu; subst hu; rfl) (by unfold maxLen; simp) (by simp) (by have := hgrow0.size; simp at this ⊢; omega) ?_; intro v' w1 hown' hgrow hplace; have HB := Lib.hid (IsPs.byte tyP_ne (HR.out.1.alloc _) (RowsP.kept HR.out.2.1 (World.grownBy_alloc _ _ none) (fun c _ => by cases c.ownBlock <;> simp)) (HR.out.2.2.1.alloc _) HR.out.2.2.2 (ps := []) (p := (2147483648, [])) (l' := [z % 256]) (by exact hown') hgrow hplace); obtain ⟨g', cap', rfl⟩ := ownsRow_succ (k := 0) hown'; have f2 : w1.frozen? ⟨g, 1, none⟩ = false := HB.out.2.2.1; have c2 : w1.cell? ⟨g, 1, none⟩ = some b := HB.out.2.2.2.1))
  go_ret2
  rw [HT.out]
  obtain ⟨q1, q2, q3, q4, cs, q5⟩ := HB.out
  have hs0 := hgrow0.size
  have hs1 := hgrow.size
  simp at hs0 hs1
  refine ⟨?_, ?_, _, rfl, q1⟩
  · exact (((((Below.refl _ w).alloc hb _).grown hgrow0 (by simp; omega) (fun k hk => (HV.out.1.lt k hk).1)).alloc (by omega) _).grown hgrow (by simp; omega) (fun k hk => (HR.out.2.2.1.lt k hk).1)).grown q2 (by omega) (fun k hk => by cases hk; exact hg)
  · refine ((((((Kp2.refl _ w).alloc _).grown hgrow0 fun k hk => ?_).alloc _).grown hgrow fun k hk => ?_)).grown q2 fun k hk => ?_
    · obtain ⟨cs, hc⟩ := own_kind (HV.out.1.alloc _) hk
      exact ⟨cs, _, _, hc, .inr rfl⟩
    · obtain ⟨cs, hc⟩ := own_kind (HR.out.2.2.1.alloc _) hk
      exact ⟨cs, _, _, hc, .inl rfl⟩
    · cases hk
      exact ⟨cs, _, _, q5, .inr rfl⟩

/-- take, at every word. -/
theorem take_any (base : Nat) (v : Value) (ps : List Prt) (x : List UInt8) (w : World) (hb : base ≤ w.heap.size) (h : IsPs tyP w base v ps) (hn : ps.length ≤ 1000000) (hm : sumL ps ≤ 1000000) (hx : x.length ≤ 70000) :
    Calls Tryd.prog 36 #[v, .string (bs x)] w fun e w' => TakeR base w (takeL hexN ps x) e w' := by
  by_cases hat : x.headD 0 = 64
  · exact take_at base v ps x w hb h hn hx hat
  · by_cases hbad : hexN x < 0 ∨ x.length ≠ 2
    · exact take_err base v ps x w hn hx hat hbad
    · rcases List.eq_nil_or_concat ps with rfl | ⟨qs, p, e⟩
      · exact take_first base v x w hb h (by omega) hat (by omega)
      · rw [List.concat_eq_append] at e
        subst e
        rw [sumL_app] at hm
        simp [sumL] at hm hn
        exact take_more base v qs p x w hb h (by omega) (by omega) (by omega) hat (by omega)
end Go.Proofs.YtcigceaadkjenaaDoor
