/- Layer 3: walks of DecodeRight, DecodeWords, DecodeApart, DecodeTurned. -/
import Derived.Test.YtfkcknockapjaaaDoorDecAwake
import Derived.Test.YtfkcknockapjaaaDoorDecRefDec
import Derived.Test.YtfkcknockapjaaaDoorInstRefRight
import Derived.Deep.RegionHeld3
namespace Go.Proofs.YtfkcknockapjaaaDoor
open Go.RowKit
set_option linter.unusedVariables false

theorem ins_parts (x : Int) : ∃ rd rs1 rs2 imm csr : Int, insV x = .agg #[.int .i64 (kindOf x), .int .i64 rd, .int .i64 rs1, .int .i64 rs2, .int .u32 imm, .int .i64 csr] := ⟨_, _, _, _, _, rfl⟩

/-- Six cells of block B. -/
def Six (w : World) (B : Nat) (a b c d e f : Int) : Prop := w.cell? ⟨B, 0, none⟩ = some (.int .i64 a) ∧ w.cell? ⟨B, 1, none⟩ = some (.int .i64 b) ∧ w.cell? ⟨B, 2, none⟩ = some (.int .i64 c) ∧ w.cell? ⟨B, 3, none⟩ = some (.int .i64 d) ∧ w.cell? ⟨B, 4, none⟩ = some (.int .u32 e) ∧ w.cell? ⟨B, 5, none⟩ = some (.int .i64 f)
theorem dcell_on {W w1 : World} {b o : Nat} {p : Option Nat} {v : Value} (hb : Below W.heap.size W w1) (h : W.cell? ⟨b, o, p⟩ = some v) : w1.cell? ⟨b, o, p⟩ = some v := by
  rw [hb.cell (p := ⟨b, o, p⟩) (lt_of_cell h)]; exact h
theorem Six.on {W w1 : World} {B : Nat} {a b c d e f : Int} (h : Six W B a b c d e f) (hb : Below W.heap.size W w1) : Six w1 B a b c d e f := by
  obtain ⟨h0, h1, h2, h3, h4, h5⟩ := h
  exact ⟨dcell_on hb h0, dcell_on hb h1, dcell_on hb h2, dcell_on hb h3, dcell_on hb h4, dcell_on hb h5⟩
theorem six_new (w : World) (B : Nat) (hB : w.heap.size = B) (t : TypeId) (a b c d e f : Int) : Six (w.alloc (.cells #[.int .i64 a, .int .i64 b, .int .i64 c, .int .i64 d, .int .u32 e, .int .i64 f] t)) B a b c d e f := by
  subst hB
  refine ⟨?_, ?_, ?_, ?_, ?_, ?_⟩ <;> rw [World.cell?_alloc_at _ _ _ _ rfl] <;> rfl

namespace decodeRight
set_option maxHeartbeats 1000000 in
theorem walk (x : Int) (w : World) (w0 : (Lit.int .u32 x).wf = true) (tf : FormTab w) (tm : MatchTab w) :
    Calls Tryd.prog 4 #[.int .u32 x] w fun e w' => e = .returned (.bool true) ∧ Below w.heap.size w w' := by
  have hx := bounds_u32 w0
  have hx0 := hx.1
  have hx1 : x < 4294967296 := by omega
  have HF : Hid (FormTab w) := tf
  have HM : Hid (MatchTab w) := tm
  clear tf tm w0 hx
  have hl := kind_lt x
  have hi := immOf_bd x (formZ (kindOf x))
  go_enter Tryd.func4, Tryd.ntmps4
  go_wp2_with fail
  refine (decode_any x _ hx0 hx1 HF.out HM.out).mono ?_
  rintro e w1 ⟨rfl, hb1⟩
  go_wp2_with fail
  refine (rright_yes (kindOf x) _ _ _ _ _ _ hl hi.1 hi.2).mono ?_
  rw [fields_right x (formZ (kindOf x)) (formZ_lt _ hl)]
  rintro e w2 ⟨rfl, hb2⟩
  have HB2 : Below w.heap.size w w2 := hb1.trans (hb2.mono hb1.size)
  go_wp2_with fail
  refine (dawake_any _ (FormTab.below HF.out HB2) (MatchTab.below HM.out HB2)).mono ?_
  rintro e w3 ⟨rfl, hb3⟩
  go_wp2
  go_ret
  exact ⟨rfl, HB2.trans (hb3.mono HB2.size)⟩
end decodeRight

namespace decodeWords
set_option maxHeartbeats 1000000 in
theorem walk (x : Int) (w : World) (w0 : (Lit.int .u32 x).wf = true) (tf : FormTab w) (tm : MatchTab w) :
    Calls Tryd.prog 3 #[.int .u32 x] w fun e w' => e = .returned (.bool true) ∧ Below w.heap.size w w' := by
  have hx := bounds_u32 w0
  have hx0 := hx.1
  have hx1 : x < 4294967296 := by omega
  have HF : Hid (FormTab w) := tf
  have HM : Hid (MatchTab w) := tm
  clear tf tm w0 hx
  obtain ⟨rd, rs1, rs2, imm, csr, hI⟩ := ins_parts x
  have HI : Hid (insV x = .agg #[.int .i64 (kindOf x), .int .i64 rd, .int .i64 rs1, .int .i64 rs2, .int .u32 imm, .int .i64 csr]) := hI
  clear hI
  go_enter Tryd.func3, Tryd.ntmps3
  go_wp2_with fail
  refine (rdec_any x _ hx0 hx1).mono ?_
  rintro e w1 ⟨rfl, hb1⟩
  rw [HI.out]
  go_wp2_with fail
  have HB : Below w.heap.size w (w1.alloc (.cells #[.int .i64 (kindOf x), .int .i64 rd, .int .i64 rs1, .int .i64 rs2, .int .u32 imm, .int .i64 csr] 24)) := hb1.alloc hb1.size _
  have S : Six (w1.alloc (.cells #[.int .i64 (kindOf x), .int .i64 rd, .int .i64 rs1, .int .i64 rs2, .int .u32 imm, .int .i64 csr] 24)) w1.heap.size (kindOf x) rd rs1 rs2 imm csr := six_new w1 _ rfl _ _ _ _ _ _ _
  generalize w1.alloc (.cells #[.int .i64 (kindOf x), .int .i64 rd, .int .i64 rs1, .int .i64 rs2, .int .u32 imm, .int .i64 csr] 24) = W at *
  generalize w1.heap.size = B at *
  have HS : Hid (Six W B (kindOf x) rd rs1 rs2 imm csr) := S
  obtain ⟨c0, c1, c2, c3, c4, c5⟩ := S
  go_region_held3 (fun w' => w'.cell? ⟨B, 0, none⟩ = some (.int .i64 (kindOf x)) ∧ w'.cell? ⟨B, 1, none⟩ = some (.int .i64 rd) ∧ w'.cell? ⟨B, 2, none⟩ = some (.int .i64 rs1) ∧ w'.cell? ⟨B, 3, none⟩ = some (.int .i64 rs2) ∧ w'.cell? ⟨B, 4, none⟩ = some (.int .u32 imm) ∧ w'.cell? ⟨B, 5, none⟩ = some (.int .i64 csr)) (first | (refine ⟨?_, ?_, ?_, ?_, ?_, ?_⟩ <;> assumption) | simp)
    (first
      | (go_at_call 9; refine (decode_any x _ hx0 hx1 (FormTab.below HF.out HB.drew) (MatchTab.below HM.out HB.drew)).mono ?_; rintro e w2 ⟨rfl, hb2⟩; rw [HI.out]; have HB2 : Below w.heap.size w w2 := HB.drew.trans (hb2.mono HB.drew.size); obtain ⟨p0, p1, p2, p3, p4, p5⟩ := Six.on (Six.on HS.out ((Below.refl W.heap.size W).drew)) hb2; clear hb2)
      | (go_at_call 10; refine (legal_any x _ hx0 hx1 (MatchTab.below HM.out HB2)).mono ?_; rintro e w3 ⟨rfl, hw⟩; have hw := hw.symm; subst hw)
      | (go_at_call 11; refine (dawake_any _ (FormTab.below HF.out HB2) (MatchTab.below HM.out HB2)).mono ?_; rintro e w4 ⟨rfl, hb4⟩; have HB4 : Below w.heap.size w w4 := HB2.trans (hb4.mono HB2.size); obtain ⟨q0, q1, q2, q3, q4, q5⟩ := Six.on ⟨p0, p1, p2, p3, p4, p5⟩ hb4; clear hb4))
  all_goals go_wp2
  all_goals go_ret
  all_goals exact ⟨rfl, HB4⟩
end decodeWords
end Go.Proofs.YtfkcknockapjaaaDoor
