/- Layer 4: the table of matches; Match; the closure that puts a field into its place; putImm. -/
import Derived.Test.YtlceglloikamnaaDoorEncMath
import Derived.Test.YtlceglloikamnaaDoorDecOp
import Derived.OneCell
namespace Go.Proofs.YtlceglloikamnaaDoor
open Go.RowKit
set_option linter.unusedVariables false

def EncTab (w : World) : Prop := ∀ k, k < 58 → w.cell? ⟨0, k, none⟩ = some (.int .u32 (matchZ k))
theorem encTab_of_laid {l : List (String × DataW Unit)} {W : World} (h : laidMetH Tryd.prog l W) (hp : (l.all fun x => x.2.handleName?.isNone) = true) (hm : ("mimesis/encode.matches", Lib.tabData .u32 matchT) ∈ l) : EncTab W := by
  rw [MakeChecks.laidMetH_plain _ _ _ hp] at h
  obtain ⟨ps, hv, _⟩ := h
  obtain ⟨g, t, cs, fuel, p, h1, h2, h3, h4⟩ := laid_mem hv hm
  obtain rfl : t = 55 := by
    obtain rfl := Option.some.inj ((show Tryd.prog.globalNamed "mimesis/encode.matches" = some 0 by kernel_rfl).symm.trans h1)
    exact Option.some.inj (h2.symm.trans (show (Tryd.prog.globals[0]?).map (·.type) = some 55 by kernel_rfl))
  have hcs := Lib.cells_of_tab Tryd.underlying55 Tryd.underlying22 (by kernel_rfl) (by kernel_rfl) h4
  obtain rfl := Option.some.inj ((show Tryd.prog.globalNamed "mimesis/encode.matches" = some 0 by kernel_rfl).symm.trans h1)
  intro k hk
  rw [World.var?_cell h1 h3 k, ← Array.getElem?_toList, hcs]
  have : k < matchT.length := hk
  simp [matchZ, List.getD, this]

theorem EncTab.below {w w' : World} (h : EncTab w) (hb : Below w.heap.size w w') : EncTab w' := fun k hk => by
  rw [hb.cell (p := ⟨0, k, none⟩) (lt_of_cell (h k hk))]; exact h k hk

set_option maxHeartbeats 400000 in
theorem ematch_no (op : Int) (w : World) (h : ¬ (1 ≤ op ∧ op < 58)) :
    Calls Tryd.prog 8 #[.int .i64 op] w fun e w' => e = .returned (.tuple #[.int .u32 0, .int .i64 9]) ∧ w' = w := by
  by_cases h1 : op ≤ 0
  · go_enter Tryd.func8, Tryd.ntmps8
    go_wp2
    go_ret2
    exact ⟨rfl, rfl⟩
  · have h2 : 58 ≤ op := by omega
    go_enter Tryd.func8, Tryd.ntmps8
    go_wp2
    go_ret2
    exact ⟨rfl, rfl⟩

theorem matchZ_L : ∀ k, k < 58 → k ≠ 0 → matchZ k = matchL.getD (k - 1) 0 := by decide +kernel

set_option maxHeartbeats 400000 in
theorem ematch_yes (k : Nat) (m : Int) (hm : matchL.getD (k - 1) 0 = m) (hk : k < 58) (hk0 : k ≠ 0) (w : World) (tm : EncTab w) :
    Calls Tryd.prog 8 #[.int .i64 k] w fun e w' => e = .returned (.tuple #[.int .u32 m, .int .i64 0]) ∧ w' = w := by
  have hc := tm k hk
  rw [matchZ_L k hk hk0, hm] at hc
  have h1 : 1 ≤ (k : Int) := by omega
  have h2 : (k : Int) < 58 := by omega
  go_enter Tryd.func8, Tryd.ntmps8
  go_wp2
  go_ret2
  exact ⟨rfl, rfl⟩

/-- All blocks but one are as they were. -/
def But (B : Nat) (w w' : World) : Prop := Below B w w' ∧ ∀ k, k ≠ B → w'.heap[k]? = w.heap[k]?
theorem But.cell {B : Nat} {w w' : World} (h : But B w w') {b o : Nat} {p : Option Nat} {v : Value} (hb : b ≠ B) (hc : w.cell? ⟨b, o, p⟩ = some v) : w'.cell? ⟨b, o, p⟩ = some v := by
  rw [World.cell?_of_block (w := w) (h.2 b hb)]; exact hc
theorem But.trans {B : Nat} {a b c : World} (h : But B a b) (g : But B b c) : But B a c := ⟨h.1.trans g.1, fun k hk => (g.2 k hk).trans (h.2 k hk)⟩
theorem But.refl (B : Nat) (w : World) : But B w w := ⟨Below.refl _ _, fun _ _ => rfl⟩

/-- Block B is one cell: the word as it is. -/
def One (w : World) (B : Nat) (x : Int) : Prop := w.heap[B]? = some (.cells #[.int .u32 x] 22 (0, 0))

theorem one_but {w : World} {B : Nat} {x y : Int} (h : One w B x) : One (w.setCell ⟨B, 0, none⟩ (.int .u32 y)) B y ∧ But B w (w.setCell ⟨B, 0, none⟩ (.int .u32 y)) :=
  ⟨one_setCell h, Below.setCell (Below.refl _ _) (p := ⟨B, 0, none⟩) (Nat.le_refl B) _, fun k hk => Below.heap_setCell _ _ _ _ hk⟩

theorem one_drew {w v : World} {B : Nat} {y : Int} (h : One w B y ∧ But B v w) : One w.drew B y ∧ But B v w.drew :=
  ⟨h.1, h.2.1.drew, h.2.2⟩

set_option maxHeartbeats 800000 in
theorem clo_any (a b m p n x : Int) (B : Nat) (w : World) (h : One w B x) (hx0 : 0 ≤ x) (hx1 : x < 4294967296) (n0 : 0 ≤ n) (n1 : n < 4294967296) (h0 : 0 ≤ b) (h1 : b ≤ a) (h2 : a ≤ 31) (hm : pw (a - b + 1) = m) (hp : pw b = p) (hz : n % m = 0 ∨ x / p % m = 0) :
    Calls Tryd.prog 20 #[.int .i64 a, .int .i64 b, .int .u32 n, .pointer (some ⟨B, 0, none⟩)] w fun e w' => e = .returned (.tuple #[]) ∧ One w' B (x + n % m * p) ∧ But B w w' ∧ 0 ≤ x + n % m * p ∧ x + n % m * p < 4294967296 := by
  have HB := or_free x n a b m p hx0 hx1 n0 h0 h1 h2 hm hp hz
  have HV : Hid (bits .or .u32 x (n * 2 ^ (31 - a + b).toNat % 4294967296 / 2 ^ (31 - a).toNat) = x + n % m * p) := by
    rw [sh_val n a b m p h0 h1 h2 hm hp]; exact HB.1
  have HC : Hid (0 ≤ x + n % m * p ∧ x + n % m * p < 4294967296) := HB.2
  have HO : Hid (One w B x) := h
  have cW := cell_of_one h
  have fW := free_of_one h
  clear h hz hm hp HB
  go_enter Tryd.func20, Tryd.ntmps20
  go_wp2
  go_region
  all_goals (try go_wp2)
  all_goals go_end0
  all_goals
    rw [HV.out]
    have g := one_drew (one_but (y := x + n % m * p) HO.out)
    exact ⟨rfl, g.1, g.2, HC.out⟩

set_option maxHeartbeats 4000000 in
theorem putImm_any (k : Nat) (f : Int) (hfk : formZ k = f) (hk : k < 58) (rd rs1 rs2 imm csr x : Int) (B : Nat) (w : World) (h : One w B x) (hx0 : 0 ≤ x) (hx1 : x < 4294967296) (i0 : 0 ≤ imm) (i1 : imm < 4294967296) (hF : Free f x) (tf : FormTab w) :
    Calls Tryd.prog 21 #[.func (.func 20) #[] #[.pointer (some ⟨B, 0, none⟩)], .agg #[.int .i64 k, .int .i64 rd, .int .i64 rs1, .int .i64 rs2, .int .u32 imm, .int .i64 csr]] w fun e w' => e = .returned (.tuple #[]) ∧ One w' B (x + immPut f imm) ∧ Below B w w' := by
  have hB : B < w.heap.size := lt_of_block h
  have HN : w.heap.size ≠ B := by omega
  have HO : One (w.alloc (.cells #[.int .i64 k, .int .i64 rd, .int .i64 rs1, .int .i64 rs2, .int .u32 imm, .int .i64 csr] 24)) B x := (Below.heap_alloc _ _ _ hB).trans h
  have HW : Below B w (w.alloc (.cells #[.int .i64 k, .int .i64 rd, .int .i64 rs1, .int .i64 rs2, .int .u32 imm, .int .i64 csr] 24)) := (Below.refl _ _).alloc (by omega) _
  have HF : Hid (FormTab (w.alloc (.cells #[.int .i64 k, .int .i64 rd, .int .i64 rs1, .int .i64 rs2, .int .u32 imm, .int .i64 csr] 24))) := FormTab.below tf ((Below.refl _ _).alloc (Nat.le_refl _) _)
  have c0 : (w.alloc (.cells #[.int .i64 k, .int .i64 rd, .int .i64 rs1, .int .i64 rs2, .int .u32 imm, .int .i64 csr] 24)).cell? ⟨w.heap.size, 0, none⟩ = some (.int .i64 k) := by rw [World.cell?_alloc_at _ _ _ _ rfl]; rfl
  have c4 : (w.alloc (.cells #[.int .i64 k, .int .i64 rd, .int .i64 rs1, .int .i64 rs2, .int .u32 imm, .int .i64 csr] 24)).cell? ⟨w.heap.size, 4, none⟩ = some (.int .u32 imm) := by rw [World.cell?_alloc_at _ _ _ _ rfl]; rfl
  have HO' : Hid (One (w.alloc (.cells #[.int .i64 k, .int .i64 rd, .int .i64 rs1, .int .i64 rs2, .int .u32 imm, .int .i64 csr] 24)) B x) := HO
  clear HO h tf hB
  have hf := formZ_lt k hk
  rw [hfk] at hf
  have HK : Hid (formZ k = f) := hfk
  clear hfk
  go_enter Tryd.func21, Tryd.ntmps21
  go_wp2_with fail
  generalize w.alloc (.cells #[.int .i64 k, .int .i64 rd, .int .i64 rs1, .int .i64 rs2, .int .u32 imm, .int .i64 csr] 24) = W at *
  generalize w.heap.size = G at *
  refine (form_yes k hk _ HF.out).mono ?_
  rintro e w1 ⟨rfl, hw⟩
  subst hw
  rw [HK.out]
  clear HK HF
  obtain ⟨f1, f2, f3, f4, f5⟩ := hF
  rcases form10 hf with rfl | rfl | rfl | rfl | rfl | rfl | rfl | rfl | rfl | rfl
  · clear f1 f2 f3 f4 f5
    go_wp2
    go_end0
    exact ⟨rfl, by simpa [immPut] using HO'.out, HW⟩
  · have q := f1 (.inl rfl)
    clear f1 f2 f3 f4 f5
    go_wp2_with fail
    refine (clo_any 31 12 1048576 4096 _ (x) B _ HO'.out hx0 hx1 ?_ ?_ (by omega) (by omega) (by omega) rfl rfl ?_).mono ?_
    · omega
    · omega
    · omega
    rintro e w2 ⟨rfl, one2, bt2, y2, z2⟩
    have c4 := bt2.cell HN c4
    go_wp2
    go_end0
    refine ⟨rfl, ?_, (HW.trans bt2.1)⟩
    rw [show x + immPut 1 imm = x + imm / 4096 % 1048576 * 4096 from by simp only [immPut]; simp; try omega]
    exact one2
  · have q := f1 (.inr rfl)
    clear f1 f2 f3 f4 f5
    go_wp2_with fail
    refine (clo_any 31 31 2 2147483648 _ (x) B _ HO'.out hx0 hx1 ?_ ?_ (by omega) (by omega) (by omega) rfl rfl ?_).mono ?_
    · omega
    · omega
    · omega
    rintro e w2 ⟨rfl, one2, bt2, y2, z2⟩
    have c4 := bt2.cell HN c4
    go_wp2_with fail
    refine (clo_any 30 21 1024 2097152 _ (x + imm / 1048576 % 2 * 2147483648) B _ one2 y2 z2 ?_ ?_ (by omega) (by omega) (by omega) rfl rfl ?_).mono ?_
    · omega
    · omega
    · omega
    rintro e w3 ⟨rfl, one3, bt3, y3, z3⟩
    have c4 := bt3.cell HN c4
    go_wp2_with fail
    refine (clo_any 20 20 2 1048576 _ (x + imm / 1048576 % 2 * 2147483648 + imm / 2 % 1024 * 2097152) B _ one3 y3 z3 ?_ ?_ (by omega) (by omega) (by omega) rfl rfl ?_).mono ?_
    · omega
    · omega
    · omega
    rintro e w4 ⟨rfl, one4, bt4, y4, z4⟩
    have c4 := bt4.cell HN c4
    go_wp2_with fail
    refine (clo_any 19 12 256 4096 _ (x + imm / 1048576 % 2 * 2147483648 + imm / 2 % 1024 * 2097152 + imm / 2048 % 2 * 1048576) B _ one4 y4 z4 ?_ ?_ (by omega) (by omega) (by omega) rfl rfl ?_).mono ?_
    · omega
    · omega
    · omega
    rintro e w5 ⟨rfl, one5, bt5, y5, z5⟩
    have c4 := bt5.cell HN c4
    go_wp2
    go_end0
    refine ⟨rfl, ?_, ((((HW.trans bt2.1).trans bt3.1).trans bt4.1).trans bt5.1)⟩
    rw [show x + immPut 2 imm = x + imm / 1048576 % 2 * 2147483648 + imm / 2 % 1024 * 2097152 + imm / 2048 % 2 * 1048576 + imm / 4096 % 256 * 4096 from by simp only [immPut]; simp; try omega]
    exact one5
  · have q := f2 rfl
    clear f1 f2 f3 f4 f5
    go_wp2_with fail
    refine (clo_any 31 20 4096 1048576 _ (x) B _ HO'.out hx0 hx1 ?_ ?_ (by omega) (by omega) (by omega) rfl rfl ?_).mono ?_
    · omega
    · omega
    · omega
    rintro e w2 ⟨rfl, one2, bt2, y2, z2⟩
    have c4 := bt2.cell HN c4
    go_wp2
    go_end0
    refine ⟨rfl, ?_, (HW.trans bt2.1)⟩
    rw [show x + immPut 3 imm = x + imm % 4096 * 1048576 from by simp only [immPut]; simp; try omega]
    exact one2
  · have q := f3 (.inl rfl)
    clear f1 f2 f3 f4 f5
    go_wp2_with fail
    refine (clo_any 31 31 2 2147483648 _ (x) B _ HO'.out hx0 hx1 ?_ ?_ (by omega) (by omega) (by omega) rfl rfl ?_).mono ?_
    · omega
    · omega
    · omega
    rintro e w2 ⟨rfl, one2, bt2, y2, z2⟩
    have c4 := bt2.cell HN c4
    go_wp2_with fail
    refine (clo_any 30 25 64 33554432 _ (x + imm / 4096 % 2 * 2147483648) B _ one2 y2 z2 ?_ ?_ (by omega) (by omega) (by omega) rfl rfl ?_).mono ?_
    · omega
    · omega
    · omega
    rintro e w3 ⟨rfl, one3, bt3, y3, z3⟩
    have c4 := bt3.cell HN c4
    go_wp2_with fail
    refine (clo_any 11 8 16 256 _ (x + imm / 4096 % 2 * 2147483648 + imm / 32 % 64 * 33554432) B _ one3 y3 z3 ?_ ?_ (by omega) (by omega) (by omega) rfl rfl ?_).mono ?_
    · omega
    · omega
    · omega
    rintro e w4 ⟨rfl, one4, bt4, y4, z4⟩
    have c4 := bt4.cell HN c4
    go_wp2_with fail
    refine (clo_any 7 7 2 128 _ (x + imm / 4096 % 2 * 2147483648 + imm / 32 % 64 * 33554432 + imm / 2 % 16 * 256) B _ one4 y4 z4 ?_ ?_ (by omega) (by omega) (by omega) rfl rfl ?_).mono ?_
    · omega
    · omega
    · omega
    rintro e w5 ⟨rfl, one5, bt5, y5, z5⟩
    have c4 := bt5.cell HN c4
    go_wp2
    go_end0
    refine ⟨rfl, ?_, ((((HW.trans bt2.1).trans bt3.1).trans bt4.1).trans bt5.1)⟩
    rw [show x + immPut 4 imm = x + imm / 4096 % 2 * 2147483648 + imm / 32 % 64 * 33554432 + imm / 2 % 16 * 256 + imm / 2048 % 2 * 128 from by simp only [immPut]; simp; try omega]
    exact one5
  · have q := f3 (.inr rfl)
    clear f1 f2 f3 f4 f5
    go_wp2_with fail
    refine (clo_any 31 25 128 33554432 _ (x) B _ HO'.out hx0 hx1 ?_ ?_ (by omega) (by omega) (by omega) rfl rfl ?_).mono ?_
    · omega
    · omega
    · omega
    rintro e w2 ⟨rfl, one2, bt2, y2, z2⟩
    have c4 := bt2.cell HN c4
    go_wp2_with fail
    refine (clo_any 11 7 32 128 _ (x + imm / 32 % 128 * 33554432) B _ one2 y2 z2 ?_ ?_ (by omega) (by omega) (by omega) rfl rfl ?_).mono ?_
    · omega
    · omega
    · omega
    rintro e w3 ⟨rfl, one3, bt3, y3, z3⟩
    have c4 := bt3.cell HN c4
    go_wp2
    go_end0
    refine ⟨rfl, ?_, ((HW.trans bt2.1).trans bt3.1)⟩
    rw [show x + immPut 5 imm = x + imm / 32 % 128 * 33554432 + imm % 32 * 128 from by simp only [immPut]; simp; try omega]
    exact one3
  · clear f1 f2 f3 f4 f5
    go_wp2
    go_end0
    exact ⟨rfl, by simpa [immPut] using HO'.out, HW⟩
  · have q := f4 rfl
    clear f1 f2 f3 f4 f5
    go_wp2_with fail
    refine (clo_any 24 20 32 1048576 _ (x) B _ HO'.out hx0 hx1 ?_ ?_ (by omega) (by omega) (by omega) rfl rfl ?_).mono ?_
    · omega
    · omega
    · omega
    rintro e w2 ⟨rfl, one2, bt2, y2, z2⟩
    have c4 := bt2.cell HN c4
    go_wp2
    go_end0
    refine ⟨rfl, ?_, (HW.trans bt2.1)⟩
    rw [show x + immPut 7 imm = x + imm % 32 * 1048576 from by simp only [immPut]; simp; try omega]
    exact one2
  · clear f1 f2 f3 f4 f5
    go_wp2
    go_end0
    exact ⟨rfl, by simpa [immPut] using HO'.out, HW⟩
  · have q := f5 rfl
    clear f1 f2 f3 f4 f5
    go_wp2_with fail
    refine (clo_any 19 15 32 32768 _ (x) B _ HO'.out hx0 hx1 ?_ ?_ (by omega) (by omega) (by omega) rfl rfl ?_).mono ?_
    · omega
    · omega
    · omega
    rintro e w2 ⟨rfl, one2, bt2, y2, z2⟩
    have c4 := bt2.cell HN c4
    go_wp2
    go_end0
    refine ⟨rfl, ?_, (HW.trans bt2.1)⟩
    rw [show x + immPut 9 imm = x + imm % 32 * 32768 from by simp only [immPut]; simp; try omega]
    exact one2
end Go.Proofs.YtlceglloikamnaaDoor
