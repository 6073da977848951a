/- Layer 5: the document's own Text, what it wants. -/
import Derived.Test.YtakomdopeadcjaaDoorDisRef
import Derived.Test.YtakomdopeadcjaaDoorInstRefRight
import Derived.Test.YtakomdopeadcjaaDoorInstAwake
import Derived.Deep.RegionWith
import Derived.BigQuiet
namespace Go.Proofs.YtakomdopeadcjaaDoor
open Go.RowKit
set_option linter.unusedVariables false

/-- Six cells of block B. -/
def SixT (w : World) (B : Nat) (a b c d e f : Int) : Prop := w.cell? ⟨B, 0, none⟩ = some (.int .i64 a) ∧ w.cell? ⟨B, 1, none⟩ = some (.int .i64 b) ∧ w.cell? ⟨B, 2, none⟩ = some (.int .i64 c) ∧ w.cell? ⟨B, 3, none⟩ = some (.int .i64 d) ∧ w.cell? ⟨B, 4, none⟩ = some (.int .u32 e) ∧ w.cell? ⟨B, 5, none⟩ = some (.int .i64 f)
theorem sixT_new (w : World) (B : Nat) (hB : w.heap.size = B) (t : TypeId) (a b c d e f : Int) : SixT (w.alloc (.cells #[.int .i64 a, .int .i64 b, .int .i64 c, .int .i64 d, .int .u32 e, .int .i64 f] t)) B a b c d e f := by
  subst hB
  refine ⟨?_, ?_, ?_, ?_, ?_, ?_⟩ <;> rw [World.cell?_alloc_at _ _ _ _ rfl] <;> rfl
theorem tcell_on {W w1 : World} {b o : Nat} {p : Option Nat} {v : Value} (hb : Below W.heap.size W w1) (h : W.cell? ⟨b, o, p⟩ = some v) : w1.cell? ⟨b, o, p⟩ = some v := by
  rw [hb.cell (p := ⟨b, o, p⟩) (lt_of_cell h)]; exact h
theorem SixT.on {W w1 : World} {B : Nat} {a b c d e f : Int} (h : SixT W B a b c d e f) (hb : Below W.heap.size W w1) : SixT w1 B a b c d e f := by
  obtain ⟨h0, h1, h2, h3, h4, h5⟩ := h
  exact ⟨tcell_on hb h0, tcell_on hb h1, tcell_on hb h2, tcell_on hb h3, tcell_on hb h4, tcell_on hb h5⟩
theorem tneb {k : Nat} (h : k ≠ 0) : ((k : Int) == 0) = false := by simp; omega
theorem tbelow_dn {B : Nat} {w w' : World} (h : Below B w w') (k : Nat) : Below B w (w'.drewN k) := h.trans (Q.below ⟨k, rfl⟩ _)

theorem name_size : ∀ k, k < 58 → (nameL.getD k []).length ≤ 8 := by decide +kernel
theorem nameS_size (k : Nat) (hk : k < 58) : (nameS k).size ≤ 8 := by
  rw [nameS_bs, bs_size]; exact name_size k hk
theorem regS_size (n : Int) : (bs (120 :: numL n)).size ≤ 22 := by
  rw [bs_size]; have := numL_len n; simp; omega

/-- What right fields are, as numbers that a machine's integer holds. -/
theorem right_ints (f rd rs1 rs2 imm csr : Int) (h : rightOf f rd rs1 rs2 imm csr = true) : (0 ≤ rd ∧ rd < 4096) ∧ (0 ≤ rs1 ∧ rs1 < 4096) ∧ (0 ≤ rs2 ∧ rs2 < 4096) ∧ (0 ≤ csr ∧ csr < 4096) := by
  obtain ⟨p1, p2, p3, p4, _⟩ := right_parts _ _ _ _ _ _ h
  have B : ∀ {x : Int} {b : Bool} {l : Int}, l ≤ 4095 → 0 ≤ l → partB x b l = true → 0 ≤ x ∧ x < 4096 := fun {x b l} hl h0 h => by
    cases b
    · have := partB_n h; omega
    · have := partB_y h; omega
  exact ⟨B (by decide) (by decide) p1, B (by decide) (by decide) p2, B (by decide) (by decide) p3, B (by decide) (by decide) p4⟩

theorem ret_text {a b : ByteArray} {c : Bool} (h : a = b) : Ending.returned (.tuple #[.string a, .bool c]) = .returned (.tuple #[.string b, .bool c]) := by rw [h]

set_option maxRecDepth 100000 in
set_option maxHeartbeats 1000000 in
theorem rtext_bad (op rd rs1 rs2 imm csr : Int) (w : World) (h : ¬ (1 ≤ op ∧ op < 58)) :
    Calls Tryd.prog 13 #[.agg #[.int .i64 op, .int .i64 rd, .int .i64 rs1, .int .i64 rs2, .int .u32 imm, .int .i64 csr]] w fun e w' => e = .returned (.tuple #[.string ⟨#[]⟩, .bool false]) ∧ Below w.heap.size w w' := by
  by_cases h0 : op = 0
  · subst h0
    go_enter Tryd.func13, Tryd.ntmps13
    go_wp2
    go_ret2
    exact ⟨rfl, (Below.refl _ _).alloc (Nat.le_refl _) _⟩
  · have hn : (op == 0) = false := by simpa using h0
    have ho : opB op = false := opB_f (by omega)
    go_enter Tryd.func13, Tryd.ntmps13
    go_wp2_with fail
    refine (rright_no op rd rs1 rs2 imm csr _ ho).mono ?_
    rintro e w1 ⟨rfl, hb⟩
    go_wp2
    go_ret2
    refine ⟨rfl, ((Below.refl _ _).alloc (Nat.le_refl _) _).trans (hb.mono ?_)⟩
    simp

set_option maxRecDepth 100000 in
set_option maxHeartbeats 1000000 in
theorem rtext_no (k : Nat) (rd rs1 rs2 imm csr : Int) (w : World) (hk : k < 58) (hk0 : k ≠ 0) (i0 : 0 ≤ imm) (i1 : imm < 4294967296) (hr : rightOf (formZ k) rd rs1 rs2 imm csr = false) :
    Calls Tryd.prog 13 #[.agg #[.int .i64 k, .int .i64 rd, .int .i64 rs1, .int .i64 rs2, .int .u32 imm, .int .i64 csr]] w fun e w' => e = .returned (.tuple #[.string ⟨#[]⟩, .bool false]) ∧ Below w.heap.size w w' := by
  have HR : Hid (rightOf (formZ k) rd rs1 rs2 imm csr = false) := hr
  have hn := tneb hk0
  clear hr
  go_enter Tryd.func13, Tryd.ntmps13
  go_wp2_with fail
  refine (rright_yes k rd rs1 rs2 imm csr _ hk i0 i1).mono ?_
  rw [HR.out]
  rintro e w1 ⟨rfl, hb⟩
  go_wp2
  go_ret2
  refine ⟨rfl, ((Below.refl _ _).alloc (Nat.le_refl _) _).trans (hb.mono ?_)⟩
  simp
end Go.Proofs.YtakomdopeadcjaaDoor
