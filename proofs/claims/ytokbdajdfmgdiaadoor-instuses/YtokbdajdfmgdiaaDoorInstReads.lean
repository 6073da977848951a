/- Layer 2: what usesRegisters, Writes and Reads answer of any instruction. -/
import Derived.Test.YtokbdajdfmgdiaaDoorInstRights
namespace Go.Proofs.YtokbdajdfmgdiaaDoor
open Go.RowKit
set_option linter.unusedVariables false

def usesB (op rd rs1 rs2 imm csr : Int) : Bool := !(decide (op = 38)) && (!(decide (op = 39)) && rightB op rd rs1 rs2 imm csr)

set_option maxHeartbeats 400000 in
theorem uses_any (op rd rs1 rs2 imm csr : Int) (w : World) (h0 : 0 ≤ imm) (h1 : imm < 4294967296) (ht : FormTab w) :
    Calls Tryd.prog 34 #[.agg #[.int .i64 op, .int .i64 rd, .int .i64 rs1, .int .i64 rs2, .int .u32 imm, .int .i64 csr]] w fun e w' => e = .returned (.bool (usesB op rd rs1 rs2 imm csr)) ∧ Below w.heap.size w w' := by
  have HT : Hid (FormTab w) := ht
  clear ht
  by_cases c1 : op = 38
  · subst c1
    go_enter Tryd.func34, Tryd.ntmps34
    go_wp2
    go_ret
    exact ⟨ret_bool (by simp [usesB]), (Below.refl _ _).alloc (Nat.le_refl _) _⟩
  · have e1 : (op != 38) = true := bne_iff_ne.2 c1
    by_cases c2 : op = 39
    · subst c2
      go_enter Tryd.func34, Tryd.ntmps34
      go_wp2
      go_ret
      exact ⟨ret_bool (by simp [usesB]), (Below.refl _ _).alloc (Nat.le_refl _) _⟩
    · have e2 : (op != 39) = true := bne_iff_ne.2 c2
      go_enter Tryd.func34, Tryd.ntmps34
      go_wp2_with fail
      refine (iright_any op rd rs1 rs2 imm csr _ h0 h1 (HT.out.below ((Below.refl _ _).alloc (Nat.le_refl _) _))).mono ?_
      rintro e w1 ⟨rfl, hb⟩
      go_wp2
      go_ret
      exact ⟨ret_bool (by simp [usesB, c1, c2]), ((Below.refl _ _).alloc (Nat.le_refl _) _).trans (hb.mono (by simp))⟩

set_option maxHeartbeats 400000 in
theorem writes_any (op rd rs1 rs2 imm csr : Int) (w : World) (h0 : 0 ≤ imm) (h1 : imm < 4294967296) (ht : FormTab w) :
    Calls Tryd.prog 23 #[.agg #[.int .i64 op, .int .i64 rd, .int .i64 rs1, .int .i64 rs2, .int .u32 imm, .int .i64 csr]] w fun e w' => e = .returned (.int .i64 (if usesB op rd rs1 rs2 imm csr then rd else 0)) ∧ Below w.heap.size w w' := by
  have HT : Hid (FormTab w) := ht
  clear ht
  cases hu : usesB op rd rs1 rs2 imm csr
  all_goals
    go_enter Tryd.func23, Tryd.ntmps23
    go_wp2_with fail
    refine (uses_any op rd rs1 rs2 imm csr _ h0 h1 (HT.out.below ((Below.refl _ _).alloc (Nat.le_refl _) _))).mono ?_
    rintro e w1 ⟨rfl, hb⟩
    have p1 := cell_on hb (show World.cell? _ ⟨w.heap.size, 1, none⟩ = some (.int .i64 rd) from by simp)
    go_wp2
    go_ret
    exact ⟨ret_int (by simp), ((Below.refl _ _).alloc (Nat.le_refl _) _).trans (hb.mono (by simp))⟩

theorem Tryd.info3 : (Tryd.prog.info? 3).map (fun i => (i.zero, i.size, i.bytes)) = some (some (.int .i64 0), 1, 8) := by kernel_rfl

/-- The registers read, rising, each once, of the lower and the higher one. -/
def readsL (lo hi : Int) : List Int := (if lo = 0 then [] else [lo]) ++ (if hi = lo then [] else [hi])

set_option maxHeartbeats 1000000 in
theorem reads_yes (op rd rs1 rs2 imm csr lo hi : Int) (w : World) (h0 : 0 ≤ imm) (h1 : imm < 4294967296) (ht : FormTab w) (hu : usesB op rd rs1 rs2 imm csr = true) (hl : (if rs2 < rs1 then rs2 else rs1) = lo) (hh : (if rs1 < rs2 then rs2 else rs1) = hi) :
    Calls Tryd.prog 22 #[.agg #[.int .i64 op, .int .i64 rd, .int .i64 rs1, .int .i64 rs2, .int .u32 imm, .int .i64 csr]] w fun e w' => ∃ v, e = .returned v ∧ w'.ownsRow w.heap.size 3 1 v (readsL lo hi).length ((readsL lo hi).map (Value.int .i64)) ∧ Below w.heap.size w w' := by
  have HT : Hid (FormTab w) := ht
  clear ht
  obtain ⟨i0, hi0, hz0, hz1, hz2⟩ := info_parts Tryd.info3
  by_cases z : lo = 0
  · by_cases q : hi = lo
    · have e : readsL lo hi = [] := by unfold readsL; rw [if_pos z, if_pos q]; rfl
      rw [e]
      have ez : (lo != 0) = false := by simp [z]
      have eq : (hi != lo) = false := by simp [q]
      clear e z q
      go_enter Tryd.func22, Tryd.ntmps22
      go_wp2_with fail
      refine (uses_any op rd rs1 rs2 imm csr _ h0 h1 (HT.out.below ((Below.refl _ _).alloc (Nat.le_refl _) _))).mono ?_
      rintro e w1 ⟨rfl, hb⟩
      have p1 := cell_on hb (show World.cell? _ ⟨w.heap.size, 2, none⟩ = some (.int .i64 rs1) from by simp)
      have p2 := cell_on hb (show World.cell? _ ⟨w.heap.size, 3, none⟩ = some (.int .i64 rs2) from by simp)
      have HB : Hid (Below w.heap.size w w1) := ((Below.refl _ _).alloc (Nat.le_refl _) _).trans (hb.mono (by simp))
      clear hb
      go_wp2_with fail
      go_region_held3 (fun w' => w'.cell? ⟨w.heap.size, 2, none⟩ = some (.int .i64 rs1) ∧ w'.cell? ⟨w.heap.size, 3, none⟩ = some (.int .i64 rs2)) (go_keep) (fail)
      all_goals go_wp2
      all_goals go_ret
      all_goals exact ⟨_, rfl, World.ownsRow_nil _ _ _ _, HB.out.drew⟩
    · have e : readsL lo hi = [hi] := by unfold readsL; rw [if_pos z, if_neg q]; rfl
      rw [e]
      have ez : (lo != 0) = false := by simp [z]
      have eq : (hi != lo) = true := bne_iff_ne.2 q
      clear e z q
      go_enter Tryd.func22, Tryd.ntmps22
      go_wp2_with fail
      refine (uses_any op rd rs1 rs2 imm csr _ h0 h1 (HT.out.below ((Below.refl _ _).alloc (Nat.le_refl _) _))).mono ?_
      rintro e w1 ⟨rfl, hb⟩
      have p1 := cell_on hb (show World.cell? _ ⟨w.heap.size, 2, none⟩ = some (.int .i64 rs1) from by simp)
      have p2 := cell_on hb (show World.cell? _ ⟨w.heap.size, 3, none⟩ = some (.int .i64 rs2) from by simp)
      have HB : Hid (Below w.heap.size w w1) := ((Below.refl _ _).alloc (Nat.le_refl _) _).trans (hb.mono (by simp))
      clear hb
      go_wp2_with fail
      go_region_held3 (fun w' => w'.cell? ⟨w.heap.size, 2, none⟩ = some (.int .i64 rs1) ∧ w'.cell? ⟨w.heap.size, 3, none⟩ = some (.int .i64 rs2)) (go_keep) (fail)
      all_goals
        have hown := World.ownsRow_nil w1.drew w.heap.size 3 1
        go_wp2_with (at_builtin; refine wpList_append_own _ rfl _ _ 38 rfl w.heap.size 3 i0 (.int .i64 0) 1 8 Tryd.underlying38 hi0 hz0 hz1 hz2 rfl (by decide) _ _ _ rfl (hown.alloc _) ⟨w1.heap.size, 0, none⟩ 1 1 [.int .i64 hi] rfl rfl ?c1 ?c2 ?c3 ?c4 ?c5 ?_)
        case c1 =>
          intro j u hj
          match j, hj with
          | 0, hj => simp at hj; subst hj; simp [Addr.add]
        case c2 => intro u hu; simp at hu; subst hu; rfl
        case c3 => unfold maxLen; omega
        case c4 => omega
        case c5 => have := HB.out.size; simp; omega
        intro v' w2 hown' hgrow _
        have hb' : Below w.heap.size w w2 := (HB.out.drew.alloc (by have := HB.out.size; simpa using this) _).grown hgrow (by have := HB.out.size; simp; omega) (fun j hj => (hown.lt j hj).1)
        clear hgrow hown
        go_wp2
        go_ret
        exact ⟨_, rfl, hown', hb'⟩
  · by_cases q : hi = lo
    · have e : readsL lo hi = [lo] := by unfold readsL; rw [if_neg z, if_pos q]; rfl
      rw [e]
      have ez : (lo != 0) = true := bne_iff_ne.2 z
      have eq : (hi != lo) = false := by simp [q]
      clear e z q
      go_enter Tryd.func22, Tryd.ntmps22
      go_wp2_with fail
      refine (uses_any op rd rs1 rs2 imm csr _ h0 h1 (HT.out.below ((Below.refl _ _).alloc (Nat.le_refl _) _))).mono ?_
      rintro e w1 ⟨rfl, hb⟩
      have p1 := cell_on hb (show World.cell? _ ⟨w.heap.size, 2, none⟩ = some (.int .i64 rs1) from by simp)
      have p2 := cell_on hb (show World.cell? _ ⟨w.heap.size, 3, none⟩ = some (.int .i64 rs2) from by simp)
      have HB : Hid (Below w.heap.size w w1) := ((Below.refl _ _).alloc (Nat.le_refl _) _).trans (hb.mono (by simp))
      clear hb
      go_wp2_with fail
      go_region_held3 (fun w' => w'.cell? ⟨w.heap.size, 2, none⟩ = some (.int .i64 rs1) ∧ w'.cell? ⟨w.heap.size, 3, none⟩ = some (.int .i64 rs2)) (go_keep) (fail)
      all_goals
        have hown := World.ownsRow_nil w1.drew w.heap.size 3 1
        go_wp2_with (at_builtin; refine wpList_append_own _ rfl _ _ 38 rfl w.heap.size 3 i0 (.int .i64 0) 1 8 Tryd.underlying38 hi0 hz0 hz1 hz2 rfl (by decide) _ _ _ rfl (hown.alloc _) ⟨w1.heap.size, 0, none⟩ 1 1 [.int .i64 lo] rfl rfl ?c1 ?c2 ?c3 ?c4 ?c5 ?_)
        case c1 =>
          intro j u hj
          match j, hj with
          | 0, hj => simp at hj; subst hj; simp [Addr.add]
        case c2 => intro u hu; simp at hu; subst hu; rfl
        case c3 => unfold maxLen; omega
        case c4 => omega
        case c5 => have := HB.out.size; simp; omega
        intro v' w2 hown' hgrow _
        have hb' : Below w.heap.size w w2 := (HB.out.drew.alloc (by have := HB.out.size; simpa using this) _).grown hgrow (by have := HB.out.size; simp; omega) (fun j hj => (hown.lt j hj).1)
        clear hgrow hown
        go_wp2
        go_ret
        exact ⟨_, rfl, hown', hb'⟩
    · have e : readsL lo hi = [lo, hi] := by unfold readsL; rw [if_neg z, if_neg q]; rfl
      rw [e]
      have ez : (lo != 0) = true := bne_iff_ne.2 z
      have eq : (hi != lo) = true := bne_iff_ne.2 q
      clear e z q
      go_enter Tryd.func22, Tryd.ntmps22
      go_wp2_with fail
      refine (uses_any op rd rs1 rs2 imm csr _ h0 h1 (HT.out.below ((Below.refl _ _).alloc (Nat.le_refl _) _))).mono ?_
      rintro e w1 ⟨rfl, hb⟩
      have p1 := cell_on hb (show World.cell? _ ⟨w.heap.size, 2, none⟩ = some (.int .i64 rs1) from by simp)
      have p2 := cell_on hb (show World.cell? _ ⟨w.heap.size, 3, none⟩ = some (.int .i64 rs2) from by simp)
      have HB : Hid (Below w.heap.size w w1) := ((Below.refl _ _).alloc (Nat.le_refl _) _).trans (hb.mono (by simp))
      clear hb
      go_wp2_with fail
      go_region_held3 (fun w' => w'.cell? ⟨w.heap.size, 2, none⟩ = some (.int .i64 rs1) ∧ w'.cell? ⟨w.heap.size, 3, none⟩ = some (.int .i64 rs2)) (go_keep) (fail)
      all_goals
        have hown := World.ownsRow_nil w1.drew w.heap.size 3 1
        go_wp2_with (at_builtin; refine wpList_append_own _ rfl _ _ 38 rfl w.heap.size 3 i0 (.int .i64 0) 1 8 Tryd.underlying38 hi0 hz0 hz1 hz2 rfl (by decide) _ _ _ rfl (hown.alloc _) ⟨w1.heap.size, 0, none⟩ 1 1 [.int .i64 lo] rfl rfl ?c1 ?c2 ?c3 ?c4 ?c5 ?_)
        case c1 =>
          intro j u hj
          match j, hj with
          | 0, hj => simp at hj; subst hj; simp [Addr.add]
        case c2 => intro u hu; simp at hu; subst hu; rfl
        case c3 => unfold maxLen; omega
        case c4 => omega
        case c5 => have := HB.out.size; simp; omega
        intro v' w2 hown' hgrow _
        have hb' : Below w.heap.size w w2 := (HB.out.drew.alloc (by have := HB.out.size; simpa using this) _).grown hgrow (by have := HB.out.size; simp; omega) (fun j hj => (hown.lt j hj).1)
        clear hgrow hown
        have HB2 : Hid (Below w.heap.size w w2) := hb'
        clear hb'
        go_wp2_with (at_builtin; refine wpList_append_own _ rfl _ _ 38 rfl w.heap.size 3 i0 (.int .i64 0) 1 8 Tryd.underlying38 hi0 hz0 hz1 hz2 rfl (by decide) _ _ _ rfl (hown'.alloc _) ⟨w2.heap.size, 0, none⟩ 1 1 [.int .i64 hi] rfl rfl ?c1 ?c2 ?c3 ?c4 ?c5 ?_)
        case c1 =>
          intro j u hj
          match j, hj with
          | 0, hj => simp at hj; subst hj; simp [Addr.add]
        case c2 => intro u hu; simp at hu; subst hu; rfl
        case c3 => unfold maxLen; omega
        case c4 => omega
        case c5 => have := HB2.out.size; simp; omega
        intro v3 w3 hown3 hgrow _
        have hb' : Below w.heap.size w w3 := (HB2.out.alloc HB2.out.size _).grown hgrow (by have := HB2.out.size; simp; omega) (fun j hj => (hown'.lt j hj).1)
        clear hgrow hown'
        go_wp2
        go_ret
        exact ⟨_, rfl, hown3, hb'⟩

set_option maxHeartbeats 400000 in
theorem reads_no (op rd rs1 rs2 imm csr : Int) (w : World) (h0 : 0 ≤ imm) (h1 : imm < 4294967296) (ht : FormTab w) (hu : usesB op rd rs1 rs2 imm csr = false) :
    Calls Tryd.prog 22 #[.agg #[.int .i64 op, .int .i64 rd, .int .i64 rs1, .int .i64 rs2, .int .u32 imm, .int .i64 csr]] w fun e w' => e = .returned (.slice none 0 0) ∧ Below w.heap.size w w' := by
  have HT : Hid (FormTab w) := ht
  clear ht
  go_enter Tryd.func22, Tryd.ntmps22
  go_wp2_with fail
  refine (uses_any op rd rs1 rs2 imm csr _ h0 h1 (HT.out.below ((Below.refl _ _).alloc (Nat.le_refl _) _))).mono ?_
  rintro e w1 ⟨rfl, hb⟩
  go_wp2
  go_ret
  exact ⟨rfl, ((Below.refl _ _).alloc (Nat.le_refl _) _).trans (hb.mono (by simp))⟩

/-- Is a register read, as the document says it? -/
def readB (op rs1 rs2 n : Int) : Bool := !(decide (op = 38)) && (!(decide (op = 39)) && (!(decide (n = 0)) && (decide (rs1 = n) || decide (rs2 = n))))

set_option maxHeartbeats 400000 in
theorem rreads_any (op rd rs1 rs2 imm csr n : Int) (w : World) :
    Calls Tryd.prog 24 #[.agg #[.int .i64 op, .int .i64 rd, .int .i64 rs1, .int .i64 rs2, .int .u32 imm, .int .i64 csr], .int .i64 n] w fun e w' => e = .returned (.bool (readB op rs1 rs2 n)) ∧ Below w.heap.size w w' := by
  by_cases c1 : op = 38
  · subst c1
    go_enter Tryd.func24, Tryd.ntmps24
    go_wp2
    go_ret
    exact ⟨ret_bool (by simp [readB]), (Below.refl _ _).alloc (Nat.le_refl _) _⟩
  · have e1 : (op == 38) = false := neb c1
    by_cases c2 : op = 39
    · subst c2
      go_enter Tryd.func24, Tryd.ntmps24
      go_wp2
      go_ret
      exact ⟨ret_bool (by simp [readB]), (Below.refl _ _).alloc (Nat.le_refl _) _⟩
    · have e2 : (op == 39) = false := neb c2
      by_cases c3 : n = 0
      · subst c3
        go_enter Tryd.func24, Tryd.ntmps24
        go_wp2
        go_ret
        exact ⟨ret_bool (by simp [readB]), (Below.refl _ _).alloc (Nat.le_refl _) _⟩
      · have e3 : (n == 0) = false := neb c3
        by_cases c4 : rs1 = n
        · subst c4
          go_enter Tryd.func24, Tryd.ntmps24
          go_wp2
          go_ret
          exact ⟨ret_bool (by simp [readB, c1, c2, c3]), (Below.refl _ _).alloc (Nat.le_refl _) _⟩
        · have e4 : (rs1 == n) = false := neb c4
          by_cases c5 : rs2 = n
          · subst c5
            go_enter Tryd.func24, Tryd.ntmps24
            go_wp2
            go_ret
            exact ⟨ret_bool (by simp [readB, c1, c2, c3]), (Below.refl _ _).alloc (Nat.le_refl _) _⟩
          · have e5 : (rs2 == n) = false := neb c5
            go_enter Tryd.func24, Tryd.ntmps24
            go_wp2
            go_ret
            exact ⟨ret_bool (by simp [readB, c1, c2, c3, c4, c5]), (Below.refl _ _).alloc (Nat.le_refl _) _⟩
end Go.Proofs.YtokbdajdfmgdiaaDoor
