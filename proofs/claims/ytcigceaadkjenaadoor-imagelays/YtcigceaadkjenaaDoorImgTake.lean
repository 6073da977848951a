/- Layer 15: take: what a word says, put to the parts. -/
import Derived.Test.YtcigceaadkjenaaDoorImgMem
import Derived.Test.YtcigceaadkjenaaDoorHexN
import Derived.OwnWalkIn
import Derived.Lib.Hide
import Derived.Maps.AppendAt
namespace Go.Proofs.YtcigceaadkjenaaDoor
open Go.RowKit
set_option linter.unusedVariables false
set_option maxRecDepth 100000

abbrev tyP : TypeId := 51
theorem tyP_ne : tyP ≠ tyB := by decide
theorem info_part : (Tryd.prog.info? 51).map (fun i => (i.zero, i.size, i.bytes)) = some (some (.agg #[.int .u32 0, .slice none 0 0]), 2, 32) := by kernel_rfl
theorem info_byte : (Tryd.prog.info? 5).map (fun i => (i.zero, i.size, i.bytes)) = some (some (.int .u8 0), 1, 1) := by kernel_rfl

theorem two_new (w : World) (x y : Value) (t : TypeId) : ∀ (j : Nat) (u : Value), [x, y][j]? = some u → (w.alloc (.cells #[x, y] t)).cell? ((⟨w.heap.size, 0, none⟩ : Addr).add j) = some u := by
  intro j u hj
  match j, hj with
  | 0, hj => simp at hj; subst hj; simp [Addr.add]
  | 1, hj => simp at hj; subst hj; simp [Addr.add]
  | j + 2, hj => simp at hj

/-- What take leaves of the parts and the world. -/
def TakeR (base : Nat) (w : World) (r : Option (List Prt)) (e : Ending) (w' : World) : Prop :=
  Below base w w' ∧ Kp2 tyP w w' ∧ match r with
    | none => e = .returned (.tuple #[.slice none 0 0, .int .i64 1])
    | some qs => ∃ v', e = .returned (.tuple #[v', .int .i64 0]) ∧ IsPs tyP w' base v' qs

set_option maxHeartbeats 2000000 in
/-- A word that begins a part. -/
theorem take_at (base : Nat) (v : Value) (ps : List Prt) (x : List UInt8) (w : World) (hb : base ≤ w.heap.size) (h : IsPs tyP w base v ps) (hn : ps.length ≤ 1000000) (hx : x.length ≤ 70000) (hat : x.headD 0 = 64) :
    Calls Tryd.prog 36 #[v, .string (bs x)] w fun e w' => TakeR base w (takeL hexN ps x) e w' := by
  obtain ⟨i0, hi, hz0, hz1, hz2⟩ := info_parts info_part
  have HP : Hid (∀ W : World, Calls Tryd.prog 53 #[.string (bs x), .string ⟨#[64]⟩] W fun e w' => e = .returned (.tuple #[.string (bs x.tail), .bool true]) ∧ w' = W) := fun W => by
    have := ipre_any x W
    rwa [if_pos hat, decide_eq_true hat] at this
  have htl : x.tail.length ≤ 70000 := by simp; omega
  have HT : Hid (takeL hexN ps x = if hexN x.tail < 0 then none else some (ps ++ [(hexN x.tail, [])])) := by
    show takeL hexN ps x = _
    unfold takeL
    rw [if_pos hat]
  obtain ⟨y, hy⟩ : ∃ y, x.tail = y := ⟨_, rfl⟩
  rw [hy] at HP HT htl
  have HU : Hid (∀ W : World, Calls Tryd.prog 54 #[.string (bs y)] W fun e w' => ∃ z c : Int, e = .returned (.tuple #[.int .u32 z, .int .i64 c]) ∧ ((hexN y < 0 ∧ z = 0 ∧ c = 1) ∨ (0 ≤ hexN y ∧ z = hexN y ∧ c = 0)) ∧ w' = W) := fun W => unhex_any y W htl
  obtain ⟨vs, h1, h2, h3⟩ := h
  have HR := Lib.hid (And.intro h1 (And.intro h2 h3))
  clear h1 h2 h3 hat hx htl
  by_cases hneg : hexN y < 0
  · have HU2 : Hid (∀ W : World, Calls Tryd.prog 54 #[.string (bs y)] W fun e w' => e = .returned (.tuple #[.int .u32 0, .int .i64 1]) ∧ w' = W) := fun W => (HU.out W).mono (by
      rintro e w' ⟨z, c, rfl, ⟨a, rfl, rfl⟩ | ⟨a, rfl, rfl⟩, rfl⟩
      · exact ⟨rfl, rfl⟩
      · omega)
    have HT2 : Hid (takeL hexN ps x = none) := by
      have := HT.out
      rwa [if_pos hneg] at this
    clear HU HT hneg
    go_enter Tryd.func36, Tryd.ntmps36
    go_wp2_with (first
      | (go_at_call 53; refine (HP.out _).mono ?_; rintro e w' ⟨rfl, hw⟩; have hw := hw.symm; subst hw)
      | (go_at_call 54; refine (HU2.out _).mono ?_; rintro e w' ⟨rfl, hw⟩; have hw := hw.symm; subst hw))
    go_ret2
    rw [HT2.out]
    exact ⟨Below.refl _ _, Kp2.refl _ _, rfl⟩
  · have HU2 : Hid (∀ W : World, Calls Tryd.prog 54 #[.string (bs y)] W fun e w' => e = .returned (.tuple #[.int .u32 (hexN y), .int .i64 0]) ∧ w' = W) := fun W => (HU.out W).mono (by
      rintro e w' ⟨z, c, rfl, ⟨a, rfl, rfl⟩ | ⟨a, rfl, rfl⟩, rfl⟩
      · omega
      · exact ⟨rfl, rfl⟩)
    have HT2 : Hid (takeL hexN ps x = some (ps ++ [(hexN y, [])])) := by
      have := HT.out
      rwa [if_neg hneg] at this
    clear HU HT hneg
    generalize hexN y = z at *
    go_enter Tryd.func36, Tryd.ntmps36
    go_wp2_with (first
      | (go_at_call 53; refine (HP.out _).mono ?_; rintro e w' ⟨rfl, hw⟩; have hw := hw.symm; subst hw)
      | (go_at_call 54; refine (HU2.out _).mono ?_; rintro e w' ⟨rfl, hw⟩; have hw := hw.symm; subst hw)
      | (at_builtin; refine wpList_append_own _ rfl _ _ 22 rfl base 51 i0 (.agg #[.int .u32 0, .slice none 0 0]) 2 32 Tryd.underlying22 hi hz0 hz1 hz2 rfl (by decide) _ _ _ rfl (HR.out.1.alloc _) ⟨w.heap.size, 0, none⟩ 1 1 [.int .u32 z, .slice none 0 0] rfl rfl (two_new _ _ _ _) (by intro u hu; simp at hu; rcases hu with rfl | rfl <;> rfl) (by unfold maxLen; omega) (by omega) (by simp; omega) ?_; intro v' w1 hown' hgrow _))
    go_ret2
    rw [HT2.out]
    refine ⟨((Below.refl _ w).alloc hb _).grown hgrow (by simp; omega) (fun k hk => (HR.out.1.lt k hk).1), ((Kp2.refl _ w).alloc _).grown hgrow fun g hg => ?_, v', rfl, IsPs.push tyP_ne HR.out.1 HR.out.2.1 HR.out.2.2 hown' hgrow⟩
    obtain ⟨cs, hc⟩ := own_kind (HR.out.1.alloc _) hg
    exact ⟨cs, _, _, hc, .inr rfl⟩
end Go.Proofs.YtcigceaadkjenaaDoor
