/- Proved: for every input mimesislaw16.CsrWrites answers true, and its arguments read afterwards as before. No condition but that the listed variables start as the program lays them, which the card ties to its text. -/
import Derived.Test.YtibhlbggnkobeaaDoorFrame
import Derived.Test.YtibhlbggnkobeaaDoorLaid
import Derived.Test.YtibhlbggnkobeaaDoorCards
import Derived.Test.YtibhlbggnkobeaaDoorTie
import Derived.SevenTiedAt
import Derived.Test.YtibhlbggnkobeaaDoorCsrWritesY
namespace Go.Proofs.YtibhlbggnkobeaaDoor.csrWrites
open Go.ChangeShapes Go.WideShapes Go.ChangeAt Go.RowKit
open Go.ChangeMaps (open_string shut_string)
set_option linter.unusedVariables false

/-- The door's own heap meets the condition. -/
theorem door_met (os : Os) (args : Array Value) : laidMetH Tryd.prog Rows.csrWritesRow.laid ((World.doorLaid Tryd.prog 400 os).forCall (fun _ _ => 0) ⟨#[], args, []⟩).memory :=
  laidMetH_of_parts3 (fuel := 8) (laidMet_of_run' 8 (by kernel_rfl) (by kernel_rfl)) (by kernel_rfl) (by kernel_rfl)

set_option maxRecDepth 100000 in
theorem lifted (os : Os) (started : os.Started) (H : Type) (enc : TypeId × Value → H) :
    ReturnsInHanded {} Tryd.checked os 4 .any (fun w args => (Rows.csrWritesSpec.pre enc Tryd.prog Tryd.f4 [] false w args ∧ laidMetH Tryd.prog Rows.csrWritesRow.laid w) ∧ sizedMet enc Tryd.prog Tryd.f4 (OpenSpec.ofChange Rows.csrWritesSpec) false w args)
      (Rows.csrWritesSpec.post enc Tryd.prog Tryd.f4 false true false false) := by
  refine returnsInHanded_of_change_and (C := Tryd.checked) (X := fun w _ => laidMetH Tryd.prog Rows.csrWritesRow.laid w) (fun _ _ _ hh h => h.of_heap hh) own started (by kernel_rfl) Tryd.func4
    (ChangeSpec.witness_shaped (enc := enc) (C := Tryd.checked) (os := os) (X := fun w _ => laidMetH Tryd.prog Rows.csrWritesRow.laid w) false (World.doorLaid Tryd.prog 400 os) #[.agg #[.int .u32 0, .int .u32 0, .int .u32 0, .int .u32 0, .int .u32 0, .int .u32 0, .int .u32 0, .int .u64 0, .int .u64 0], .agg #[.int .i64 0, .int .u32 0], .agg #[.int .u64 0, .int .u64 0, .int .u64 0, .int .u32 0]] 8 rfl (World.shaped_of_RefB (by kernel_rfl) (by kernel_rfl)) (by kernel_rfl) (by kernel_rfl) (by kernel_rfl) (door_met os _)) ?_
  intro W base args ds gs before hval0 hW _ _ hL _
  have hval : ∀ (j : Nat) t v, Tryd.f4.params[j]? = some t → args[j]? = some v → Value.okWide Tryd.prog W .any base t v := hval0
  have hW' := hW
  obtain ⟨p, q, hA0, hV, rfl, hfz, hnd⟩ := hW
  have hA : DataW.TrodAll enc Tryd.prog W 0 (fun _ => true) true Tryd.f4.params.toList args.toList ds p := hA0
  rw [Tryd.params4] at hA hval
  obtain ⟨v0, vs0, d0, ds0, p0, q0, hargs, rfl, rfl, h0, r0⟩ := trodAll_cons hA
  obtain ⟨v1, vs1, d1, ds1, p1, q1, rfl, rfl, rfl, h1, r1⟩ := trodAll_cons r0
  obtain ⟨v2, vs2, d2, ds2, p2, q2, rfl, rfl, rfl, h2, r2⟩ := trodAll_cons r1
  obtain ⟨rfl, rfl, rfl⟩ := trodAll_nil r2
  obtain rfl : args = #[v0, v1, v2] := by cases args; simp_all
  obtain ⟨rfl, rfl⟩ := trodVars_none hV
  have k0 := h0
  have lt0 : ∀ x ∈ p0, x.block < W.heap.size := by obtain ⟨m, hm⟩ := k0; exact DataW.trod_lt m _ _ _ hm
  have k1 := h1
  have lt1 : ∀ x ∈ p1, x.block < W.heap.size := by obtain ⟨m, hm⟩ := k1; exact DataW.trod_lt m _ _ _ hm
  have k2 := h2
  have lt2 : ∀ x ∈ p2, x.block < W.heap.size := by obtain ⟨m, hm⟩ := k2; exact DataW.trod_lt m _ _ _ hm
  obtain ⟨a0, rfl, w0⟩ := open_cfile Tryd.underlying27 (by kernel_rfl) (by kernel_rfl) (by kernel_rfl) Tryd.underlying25 Tryd.underlying25 Tryd.underlying24 rfl (fields_of ((And.intro rfl (And.intro (by kernel_rfl) (And.intro Tryd.underlying22 (And.intro rfl (And.intro (by kernel_rfl) (And.intro Tryd.underlying22 (And.intro rfl (And.intro (by kernel_rfl) (And.intro Tryd.underlying22 (And.intro rfl (And.intro (by kernel_rfl) (And.intro Tryd.underlying22 (And.intro rfl (And.intro (by kernel_rfl) (And.intro Tryd.underlying22 (And.intro rfl (And.intro (by kernel_rfl) (And.intro Tryd.underlying22 (And.intro rfl (And.intro (by kernel_rfl) (And.intro Tryd.underlying22 trivial))))))))))))))))))))))) (hval 0 27 v0 rfl rfl) h0
  obtain ⟨a1, b1, rfl, w1, u1⟩ := open_cword Tryd.underlying44 rfl (by kernel_rfl) (fields_of ((And.intro rfl (And.intro (by kernel_rfl) (And.intro Tryd.underlying3 (And.intro rfl (And.intro (by kernel_rfl) (And.intro Tryd.underlying22 trivial)))))))) (hval 1 44 v1 rfl rfl) h1
  obtain ⟨a2, rfl, w2⟩ := open_cenv Tryd.underlying29 rfl (by kernel_rfl) (fields_of ((And.intro rfl (And.intro (by kernel_rfl) (And.intro Tryd.underlying25 (And.intro rfl (And.intro (by kernel_rfl) (And.intro Tryd.underlying25 (And.intro rfl (And.intro (by kernel_rfl) (And.intro Tryd.underlying25 (And.intro rfl (And.intro (by kernel_rfl) (And.intro Tryd.underlying22 trivial)))))))))))))) (hval 2 29 v2 rfl rfl) h2
  clear hA0 hval0
  refine (walk a0 a1 b1 a2 W w0 w1 u1 w2 (regTab_of_laid hL (by kernel_rfl) (by first | exact .head _ | exact .tail _ (.head _) | exact .tail _ (.tail _ (.head _)) | exact .tail _ (.tail _ (.tail _ (.head _))) | exact .tail _ (.tail _ (.tail _ (.tail _ (.head _)))) | exact .tail _ (.tail _ (.tail _ (.tail _ (.tail _ (.head _))))) | exact .tail _ (.tail _ (.tail _ (.tail _ (.tail _ (.tail _ (.head _)))))) | exact .tail _ (.tail _ (.tail _ (.tail _ (.tail _ (.tail _ (.tail _ (.head _))))))) | exact .tail _ (.tail _ (.tail _ (.tail _ (.tail _ (.tail _ (.tail _ (.tail _ (.head _))))))))))).mono fun e W' ⟨he, bel⟩ => ?_
  subst he
  exact ⟨_, rfl, _, _, _, [], _, [], hW', trodAll_mk1 (shut_bool Tryd.underlying4 _), (trodAll_cons_mk (Below.trod laidOut (by kernel_rfl) (of_decide_eq_true (by kernel_rfl)) k0 bel lt0) (trodAll_cons_mk (Below.trod laidOut (by kernel_rfl) (of_decide_eq_true (by kernel_rfl)) k1 bel lt1) (trodAll_cons_mk (Below.trod laidOut (by kernel_rfl) (of_decide_eq_true (by kernel_rfl)) k2 bel lt2) trodAll_mk0))), rfl, bel.frame _, fun h => by cases h⟩

theorem over : Rows.csrWritesRow.holds Tryd.pinned (OpenSpec.ofChange Rows.csrWritesSpec) :=
  OpenClaim.holds_of_wide 4 Tryd.f4 rfl rfl rfl rfl rfl rfl rfl ⟨rfl, rfl, rfl, rfl, rfl⟩ rfl rfl rfl rfl rfl (by kernel_rfl) Tryd.func4 (by kernel_rfl)
    (of_decide_eq_true (by kernel_rfl)) (by unfold Func.isWrapper; first | (rw [if_pos (by decide +kernel)]; kernel_rfl) | (rw [if_neg (by decide +kernel)]; exact ⟨rfl, rfl⟩))
    (fun os started H enc _ => lifted os started H enc)
end Go.Proofs.YtibhlbggnkobeaaDoor.csrWrites

namespace Go.Proofs.YtibhlbggnkobeaaDoor
theorem csrWrites_card : Rows.CsrWritesCardSaid :=
  Claim7.holds_tied_plain_at .later [] Rows.csrWritesCard.laidKinds true Rows.csrWritesCard.stood.harness false
    csrWrites.over (fun _ h => by cases h) (by kernel_rfl) (fun _ h => by cases h) csrWrites_row_tie rfl ⟨rfl, rfl⟩ (by kernel_rfl) rfl
    (fun f fn hf hfn => by
      obtain rfl : f = 4 := Option.some.inj ((show Tryd.prog.funcNamed Rows.csrWritesRow.func = some 4 by kernel_rfl).symm.trans hf) |>.symm
      obtain rfl : fn = Tryd.f4 := (Option.some.inj (Tryd.func4.symm.trans hfn)).symm
      exact ⟨by kernel_rfl, fun j t ht => by
        rw [Tryd.params4] at ht
        have hm : t ∈ Tryd.f4.params.toList := by rw [Tryd.params4]; simpa using Array.mem_of_getElem? ht
        have hall : (Tryd.f4.params.toList.all fun u => !Tryd.prog.wantsStandIn u) = true := by kernel_rfl
        exact (show Tryd.prog.wantsStandIn t = false by simpa using List.all_eq_true.1 hall t hm)⟩)
    (by kernel_rfl)
#print axioms csrWrites_card
end Go.Proofs.YtibhlbggnkobeaaDoor
