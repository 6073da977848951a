/- Layer 15: Parse: two loops over the library's sequences, one in the other; a return out of both. -/
import Derived.Test.YtcigceaadkjenaaDoorImgSpl
import Derived.Test.YtcigceaadkjenaaDoorImgTakeB
import Derived.Test.YtcigceaadkjenaaDoorImgRd
import Derived.Test.YtcigceaadkjenaaDoorImgMath2
namespace Go.Proofs.YtcigceaadkjenaaDoor
open Go.RowKit Go.Shelf
set_option linter.unusedVariables false
set_option maxRecDepth 100000

attribute [local go_sem] Oper.semAt_some

theorem isPs_row {T : TypeId} {X Y : World} {base : Nat} {v : Value} {ps : List Prt} {row : Option Nat} (h : IsPs T X base v ps) (hg : X.grownBy Y row) (hr : ∀ r, row = some r → ∃ o : Obj, X.heap[r]? = some o ∧ o.isCells = false) : IsPs T Y base v ps := by
  cases row with
  | none => exact h.kept hg
  | some k =>
    obtain ⟨o, ho, hc⟩ := hr k rfl
    refine h.turn hg fun cs => ⟨fun e => ?_, fun e => ?_⟩
    · rw [ho] at e; cases e; cases hc
    · rw [ho] at e; cases e; cases hc
theorem box_row {X Y : World} {B : Nat} {t : TypeId} {v : Value} {row : Option Nat} (h : Boxed X B t v) (hg : X.grownBy Y row) (hr : ∀ r, row = some r → ∃ o : Obj, X.heap[r]? = some o ∧ o.isCells = false) : Boxed Y B t v :=
  h.kept hg (fun e => by obtain ⟨o, ho, hc⟩ := hr B e.symm; rw [show X.heap[B]? = _ from h] at ho; cases ho; cases hc)
theorem ky_row {n₀ M : Nat} {W X Y : World} {row : Option Nat} {B0 : Nat} (h : Ky n₀ M W X) (hg : X.grownBy Y row) (hr : ∀ r, row = some r → B0 ≤ r ∧ ∃ o : Obj, X.heap[r]? = some o ∧ o.isCells = false) (hn : n₀ ≤ B0) (hX : n₀ ≤ X.heap.size) : Ky n₀ M W Y :=
  ⟨h.1.grown hg hX (fun k e => by have := (hr k e).1; omega), fun k a b t v p q e => box_row (h.2 k a b t v p q e) hg (fun r e => (hr r e).2)⟩

theorem IsPs.slice {T : TypeId} {W : World} {base : Nat} {v : Value} {ps : List Prt} (h : IsPs T W base v ps) : ∃ a n c, v = .slice a n c := by
  obtain ⟨vs, h1, _⟩ := h
  rcases h1.2 with ⟨rfl, _⟩ | ⟨g, cap, cur, rfl, _⟩
  · exact ⟨_, _, _, rfl⟩
  · exact ⟨_, _, _, rfl⟩

theorem ky_kp2 {n₀ M : Nat} {X Y : World} (h : Kp2 tyP X Y) (hb : Below n₀ X Y) : Ky n₀ M X Y := ⟨hb, fun k _ _ t v p q e => h.box e p q⟩
theorem ky_set {n₀ M B : Nat} {X : World} (hn : n₀ ≤ B) (hB : B < M) (v : Value) : Ky n₀ M X (X.setCell ⟨B, 0, none⟩ v) :=
  ⟨(Below.refl _ _).setCell (p := ⟨B, 0, none⟩) hn v, fun k hk _ t u _ _ e => e.other (by omega) v⟩

/-- What Parse answers. -/
def ParseR (w : World) (r : List Prt × Int) (e : Ending) (w' : World) : Prop := ∃ v, e = .returned (.tuple #[v, .int .i64 r.2]) ∧ IsPs tyP w' w.heap.size v r.1 ∧ Below w.heap.size w w'

theorem tyL_ne : (22 : TypeId) ≠ tyB ∧ (22 : TypeId) ≠ tyP := by decide
theorem tyE_ne : (27 : TypeId) ≠ tyB ∧ (27 : TypeId) ≠ tyP := by decide
theorem tyS_ne : (9 : TypeId) ≠ tyB ∧ (9 : TypeId) ≠ tyP := by decide
/-- A box of another type is written. -/
theorem isPs_box {W : World} {base B : Nat} {t : TypeId} {v u u' : Value} {ps : List Prt} (h : IsPs tyP W base v ps) (hb : Boxed W B t u) (h1 : t ≠ tyB) (h2 : t ≠ tyP) : IsPs tyP (W.setCell ⟨B, 0, none⟩ u') base v ps :=
  h.turn (grownBy_setCell' W B u') fun cs => ⟨fun e => by rw [show W.heap[B]? = _ from hb] at e; cases e; exact h1 rfl, fun e => by rw [show W.heap[B]? = _ from hb] at e; cases e; exact h2 rfl⟩

set_option maxHeartbeats 1000000 in
theorem parse_over (l : List UInt8) (w : World) (hl : 65536 < l.length) (hm : l.length ≤ maxLen) :
    Calls Tryd.prog 18 #[.string (bs l)] w fun e w' => ParseR w ([], 3) e w' := by
  have hsz : (bs l).size = l.length := bs_size l
  unfold maxLen at hm
  go_enter Tryd.func18, Tryd.ntmps18
  go_wp2
  refine bodyPost_ret (v := .tuple #[.slice none 0 0, .int .i64 3]) (by simp [results, Tryd.f18, go_sem]) rfl ?_
  refine ⟨_, rfl, IsPs.nil _ _ _, ?_⟩
  exact ((Below.refl _ w).alloc (Nat.le_refl _) _).alloc (by simp) _

set_option maxHeartbeats 4000000 in
theorem parse_any (l : List UInt8) (w : World) (hl : l.length ≤ 65536) (hT : U8Tab w) :
    Calls Tryd.prog 18 #[.string (bs l)] w fun e w' => ParseR w (parseL hexN l) e w' := by
  have hsz : (bs l).size = l.length := bs_size l
  refine (callsIn_wide (n := 8)).1 ?_
  refine callsIn_of_wp_marks Tryd.func18 rfl trivial ?_ rfl
  simp only [Tryd.ntmps18, List.size_toArray, List.length_cons, List.length_nil, Nat.reduceAdd, Nat.reduceSub, Array.replicate_succ, Array.replicate_zero, List.push_toArray, List.append_toArray, List.nil_append, List.cons_append]
  gi_wp2_with (refine ⟨trivial, ?_⟩; gi_at_call 32; refine (sseq_in Fence.wide (8 - 1) (by omega) trivial trivial rfl _ _).mono ?_; rintro e w' ⟨rfl, hw⟩; subst hw)
  obtain ⟨W0, hW0⟩ : ∃ W0, (((((w.alloc (.cells #[.slice none 0 0] 22)).alloc (.cells #[.int .i64 0] 27)).alloc (.cells #[.slice none 0 0] 22)).alloc (.cells #[.string (bs l)] 9)).alloc (.cells #[.string ⟨#[10]⟩] 9)).alloc (.cells #[.int .i64 0] 3) = W0 := ⟨_, rfl⟩
  have bA : Boxed W0 w.heap.size 22 (.slice none 0 0) := by
    have := (((((Boxed.new w 22 (.slice none 0 0)).alloc (.cells #[.int .i64 0] 27)).alloc (.cells #[.slice none 0 0] 22)).alloc (.cells #[.string (bs l)] 9)).alloc (.cells #[.string ⟨#[10]⟩] 9)).alloc (.cells #[.int .i64 0] 3)
    rwa [hW0] at this
  have bE : Boxed W0 (w.heap.size + 1) 27 (.int .i64 0) := by
    have := ((((Boxed.new (w.alloc (.cells #[.slice none 0 0] 22)) 27 (.int .i64 0)).alloc (.cells #[.slice none 0 0] 22)).alloc (.cells #[.string (bs l)] 9)).alloc (.cells #[.string ⟨#[10]⟩] 9)).alloc (.cells #[.int .i64 0] 3)
    rw [hW0] at this
    simpa using this
  have bL : Boxed W0 (w.heap.size + 1 + 1) 22 (.slice none 0 0) := by
    have := (((Boxed.new ((w.alloc (.cells #[.slice none 0 0] 22)).alloc (.cells #[.int .i64 0] 27)) 22 (.slice none 0 0)).alloc (.cells #[.string (bs l)] 9)).alloc (.cells #[.string ⟨#[10]⟩] 9)).alloc (.cells #[.int .i64 0] 3)
    rw [hW0] at this
    simpa using this
  have bS : Boxed W0 (w.heap.size + 1 + 1 + 1) 9 (.string (bs l)) := by
    have := ((Boxed.new (((w.alloc (.cells #[.slice none 0 0] 22)).alloc (.cells #[.int .i64 0] 27)).alloc (.cells #[.slice none 0 0] 22)) 9 (.string (bs l))).alloc (.cells #[.string ⟨#[10]⟩] 9)).alloc (.cells #[.int .i64 0] 3)
    rw [hW0] at this
    simpa using this
  have bP : Boxed W0 (w.heap.size + 1 + 1 + 1 + 1) 9 (.string ⟨#[10]⟩) := by
    have := (Boxed.new ((((w.alloc (.cells #[.slice none 0 0] 22)).alloc (.cells #[.int .i64 0] 27)).alloc (.cells #[.slice none 0 0] 22)).alloc (.cells #[.string (bs l)] 9)) 9 (.string ⟨#[10]⟩)).alloc (.cells #[.int .i64 0] 3)
    rw [hW0] at this
    simpa using this
  have bV : Boxed W0 (w.heap.size + 1 + 1 + 1 + 2) 3 (.int .i64 0) := by
    have := Boxed.new (((((w.alloc (.cells #[.slice none 0 0] 22)).alloc (.cells #[.int .i64 0] 27)).alloc (.cells #[.slice none 0 0] 22)).alloc (.cells #[.string (bs l)] 9)).alloc (.cells #[.string ⟨#[10]⟩] 9)) 3 (.int .i64 0)
    rw [hW0] at this
    simpa using this
  have hsz0 : W0.heap.size = w.heap.size + 6 := by rw [← hW0]; simp
  have hB0 : Below w.heap.size w W0 := by
    rw [← hW0]
    exact ((((((Below.refl _ w).alloc (Nat.le_refl _) _).alloc (by simp) _).alloc (by simp; omega) _).alloc (by simp; omega) _).alloc (by simp; omega) _).alloc (by simp; omega) _
  rw [hW0]
  clear hW0
  refine wpIn_range_box rfl (by omega) (gf := 61) (lb := #[.pointer (some ⟨w.heap.size + 1 + 1 + 1 + 1, 0, none⟩), .pointer (some ⟨w.heap.size + 1 + 1 + 1, 0, none⟩), .pointer (some ⟨w.heap.size + 1 + 1 + 1 + 2, 0, none⟩)]) rfl trivial (enters_of Tryd.func61 (by kernel_rfl) rfl)
    (spl_stops (8 - 1) (by omega) (w.heap.size + 1 + 1 + 1) w.heap.size l (by omega) (by omega) W0 bS bP bV) (by omega) ky_t (ky_b (by omega)) (fun _ => rfl)
    (fun pre W => ∃ (ps : List Prt) (v u : Value), foldW hexN [] (pre.flatMap lineW) = some ps ∧ Boxed W (w.heap.size + 1 + 1) 22 v ∧ IsPs tyP W w.heap.size v ps ∧ Boxed W w.heap.size 22 (.slice none 0 0) ∧ Boxed W (w.heap.size + 1) 27 (.int .i64 0) ∧ Boxed W (w.heap.size + 1 + 1 + 1) 9 u ∧ Below w.heap.size w W)
    (fun c pre W => c = .ret ∧ foldW hexN [] (pre.flatMap lineW) = none ∧ Boxed W w.heap.size 22 (.slice none 0 0) ∧ Boxed W (w.heap.size + 1) 27 (.int .i64 1) ∧ Below w.heap.size w W)
    (fun s X Y row hs hg hr => by
      obtain ⟨ps, v, u, h1, h2, h3, h4, h5, h6, h7⟩ := hs
      have hr' := fun r e => (hr r e).2
      exact ⟨ps, v, u, h1, box_row h2 hg hr', isPs_row h3 hg hr', box_row h4 hg hr', box_row h5 hg hr', box_row h6 hg hr', h7.grown hg h7.size (fun k e => by have := (hr k e).1; omega)⟩)
    (fun c s X Y row hs hg hr => by
      obtain ⟨h1, h2, h4, h5, h7⟩ := hs
      have hr' := fun r e => (hr r e).2
      exact ⟨h1, h2, box_row h4 hg hr', box_row h5 hg hr', h7.grown hg h7.size (fun k e => by have := (hr k e).1; omega)⟩)
    (fun s V z hs => by
      obtain ⟨ps, v, u, h1, h2, h3, h4, h5, h6, h7⟩ := hs
      exact ⟨ps, v, z, h1, h2.other (by omega) _, isPs_box h3 h6 tyS_ne.1 tyS_ne.2, h4.other (by omega) _, h5.other (by omega) _, h6.set _, h7.setCell (p := ⟨w.heap.size + 1 + 1 + 1, 0, none⟩) (by simp; omega) _⟩)
    ⟨[], .slice none 0 0, .string (bs l), rfl, bL, IsPs.nil _ _ _, bA, bE, bS, hB0⟩ ?a1 ?assign ?body ?done ?stop
  case assign =>
    intro l2 x W K hK
    unfold encL
    gi_wp2
    exact hK
  case body =>
    rintro l2 pre x W hl2 ⟨r, hr⟩ ⟨ps, v, u, hf, bL1, hps, bA1, bE1, bS1, hB1⟩ ⟨t, hG⟩
    have hxl : x.length ≤ l.length := splN_len l x (by rw [hG]; simp)
    have hxl2 : x.length ≤ 70000 := by omega
    have hpl : (pre.flatMap lineW).length ≤ 1 + l.length := by
      have := words_part_len hG
      rw [List.flatMap_append, List.length_append] at this
      omega
    have hcl : (cutR x).length ≤ 70000 := Nat.le_trans (cutR_len x) hxl2
    gi_wp2_with (first
      | (refine ⟨trivial, ?_⟩; gi_at_call 33; refine (CallsIn.inRound l2 (callsIn_wide.2 (icut_any x _ hxl2))).mono ?_; rintro e w1 ⟨y, b, rfl, hq⟩)
      | (refine ⟨trivial, ?_⟩; gi_at_call 34; refine (CallsIn.inRound l2 (fseq_in Fence.wide _ trivial rfl _ _)).mono ?_; rintro e w2 ⟨rfl, hw⟩; subst hw))
    obtain ⟨W1, hW1⟩ : ∃ W1, (w1.alloc (.cells #[.string (bs (cutR x))] 9)).alloc (.cells #[.func (.func 35) #[] #[]] 74) = W1 := ⟨_, rfl⟩
    have hbq : Below W.heap.size W w1 := hq.below _
    have hsq : w1.heap.size = W.heap.size := by obtain ⟨k, rfl⟩ := hq; rfl
    have bB : Boxed W1 w1.heap.size 9 (.string (bs (cutR x))) := by
      have := (Boxed.new w1 9 (.string (bs (cutR x)))).alloc (.cells #[.func (.func 35) #[] #[]] 74)
      rwa [hW1] at this
    have bC : Boxed W1 (w1.heap.size + 1) 74 (.func (.func 35) #[] #[]) := by
      have := Boxed.new (w1.alloc (.cells #[.string (bs (cutR x))] 9)) 74 (.func (.func 35) #[] #[])
      rw [hW1] at this
      simpa using this
    have hsz1 : W1.heap.size = W.heap.size + 2 := by rw [← hW1]; simp [hsq]
    have hBW1 : Below W.heap.size W W1 := by
      rw [← hW1]
      exact (hbq.alloc (by omega) _).alloc (by simp; omega) _
    rw [hW1]
    clear hW1
    have hW6 : w.heap.size + 6 ≤ W.heap.size := by have := (Array.getElem?_eq_some_iff.1 hr).1; omega
    have hr' : W1.heap[l2]? = some (.loop r) := (hBW1.block l2 (Array.getElem?_eq_some_iff.1 hr).1).trans hr
    have hbx : ∀ {k : Nat} {ty : TypeId} {z : Value}, Boxed W k ty z → Boxed W1 k ty z := fun e => box_on e hBW1
    have hKF1 : KeepsFrom W0.heap.size W W1 := ⟨hBW1.size, fun k o _ hk _ => (hBW1.block k (Array.getElem?_eq_some_iff.1 hk).1).trans hk⟩
    have hKy1 : Ky w.heap.size (w.heap.size + 1 + 1 + 1) W W1 := ⟨hBW1.mono (by omega), fun k _ _ ty z _ _ e => hbx e⟩
    refine wpIn_range_in (l₀ := l2) (r₀ := r) rfl hr' (by omega) (gf := 51) (lb := #[.pointer (some ⟨w1.heap.size, 0, none⟩), .pointer (some ⟨w1.heap.size + 1, 0, none⟩)]) rfl trivial (enters_of Tryd.func51 (by kernel_rfl) rfl)
      ((fld_stops (8 - 1 - 1 - 1) (by omega) w1.heap.size (w1.heap.size + 1) (cutR x) hcl w W1 hT bB bC (hB1.trans (hBW1.mono hB1.size))).inRound l2) kx_t (kx_b (by omega)) (fun _ => ⟨Below.refl _ _, fun e => e, fun e => e⟩) (fun _ => rfl)
      (fun pre' W' => ∃ (ps' : List Prt) (v' : Value), foldW hexN [] (pre.flatMap lineW ++ pre'.map (·.1)) = some ps' ∧ Boxed W' (w.heap.size + 1 + 1) 22 v' ∧ IsPs tyP W' w.heap.size v' ps' ∧ Boxed W' w.heap.size 22 (.slice none 0 0) ∧ Boxed W' (w.heap.size + 1) 27 (.int .i64 0) ∧ Ky w.heap.size (w.heap.size + 1 + 1 + 1) W W' ∧ KeepsFrom W0.heap.size W W')
      (fun c pre' W' => c = .ret ∧ foldW hexN [] (pre.flatMap lineW ++ pre'.map (·.1)) = none ∧ Boxed W' w.heap.size 22 (.slice none 0 0) ∧ Boxed W' (w.heap.size + 1) 27 (.int .i64 1) ∧ Ky w.heap.size (w.heap.size + 1 + 1 + 1) W W' ∧ KeepsFrom W0.heap.size W W')
      (fun s X Y row hs hg hr => by
        obtain ⟨ps', v', h1, h2, h3, h4, h5, h6, h7⟩ := hs
        have hrr := fun r e => (hr r e).2
        exact ⟨ps', v', h1, box_row h2 hg hrr, isPs_row h3 hg hrr, box_row h4 hg hrr, box_row h5 hg hrr, ky_row h6 hg hr (by omega) (by have := h6.1.size; omega), ownFrom_keepsFrom (β := Unit) (B := W0.heap.size) (w₀ := W) (B' := W1.heap.size) (by omega) () X Y row h7 hg hr⟩)
      (fun c s X Y row hs hg hr => by
        obtain ⟨h1, h2, h4, h5, h6, h7⟩ := hs
        have hrr := fun r e => (hr r e).2
        exact ⟨h1, h2, box_row h4 hg hrr, box_row h5 hg hrr, ky_row h6 hg hr (by omega) (by have := h6.1.size; omega), ownFrom_keepsFrom (β := Unit) (B := W0.heap.size) (w₀ := W) (B' := W1.heap.size) (by omega) () X Y row h7 hg hr⟩)
      ⟨ps, v, by simpa using hf, hbx bL1, hps.on hBW1, hbx bA1, hbx bE1, hKy1, hKF1⟩
      ?a2 ?assign2 ?body2 ?done2 ?stop2
    case assign2 =>
      intro l3 y W' K hK
      unfold encT
      gi_wp2
      exact hK
    case body2 =>
      rintro l3 pre' y W' ⟨ps', v', hf', bL2, hps', bA2, bE2, hKy, hKF⟩ hlt
      obtain ⟨bn1, bn2⟩ := foldW_bd hf'
      rw [List.length_append, List.length_map] at bn1 bn2
      simp only [List.length_nil, Nat.zero_add] at bn1
      have hsum0 : sumL [] = 0 := rfl
      rw [hsum0] at bn2
      have hclx := cutR_len x
      have cL := bL2.cell
      have HTK : Hid (Calls Tryd.prog 36 #[v', .string (bs y.1)] W' fun e w' => TakeR w.heap.size W' (takeL hexN ps' y.1) e w') := take_any w.heap.size v' ps' y.1 W' (by have := hKy.1.size; omega) hps' (by omega) (by omega) y.2
      have hsn := fold_snoc (w := y.1) hf'
      have hl0 : w.heap.size ≤ W'.heap.size := by have := hKy.1.size; omega
      cases htk : takeL hexN ps' y.1 with
      | none =>
        rw [htk] at HTK hsn
        gi_wp2_with (refine ⟨trivial, ?_⟩; gi_at_call 36; refine (CallsIn.inRound l3 (CallsIn.inRound l2 (callsIn_wide.2 HTK.out))).mono ?_; rintro e w3 ⟨hb3, hk3, rfl⟩; have bL3 := hk3.box bL2 tyL_ne.1 tyL_ne.2; have bA3 := hk3.box bA2 tyL_ne.1 tyL_ne.2; have bE3 := hk3.box bE2 tyE_ne.1 tyE_ne.2; have cL3 := bL3.cell; have fL3 := bL3.frozen; have cA3 := bA3.cell; have fA3 := bA3.frozen; have cE3 := bE3.cell; have fE3 := bE3.frozen)
        have hko := hk3.others.trans (((KeepsOthers.setCell w3 ⟨w.heap.size + 1 + 1, 0, none⟩ (.slice none 0 0)).trans (KeepsOthers.setCell _ ⟨w.heap.size, 0, none⟩ (.slice none 0 0))).trans (KeepsOthers.setCell _ ⟨w.heap.size + 1, 0, none⟩ (.int .i64 1)))
        refine ⟨hko.from _, rfl, ?_, ((bA3.other (by omega) _).set _).other (by omega) _, ((bE3.other (by omega) _).other (by omega) _).set _, ky_t hKy (ky_t (ky_kp2 hk3 hb3) (ky_t (ky_set (by omega) (by omega) _) (ky_t (ky_set (by omega) (by omega) _) (ky_set (by omega) (by omega) _)))), hKF.trans (hko.from _)⟩
        rw [List.map_append, ← List.append_assoc]
        exact hsn
      | some qs =>
        rw [htk] at HTK hsn
        gi_wp2_with (refine ⟨trivial, ?_⟩; gi_at_call 36; refine (CallsIn.inRound l3 (CallsIn.inRound l2 (callsIn_wide.2 HTK.out))).mono ?_; rintro e w3 ⟨hb3, hk3, v3, rfl, hps3⟩; obtain ⟨av, nv, cv, rfl⟩ := hps3.slice; have bL3 := hk3.box bL2 tyL_ne.1 tyL_ne.2; have bA3 := hk3.box bA2 tyL_ne.1 tyL_ne.2; have bE3 := hk3.box bE2 tyE_ne.1 tyE_ne.2; have cL3 := bL3.cell; have fL3 := bL3.frozen; have cA3 := bA3.cell; have fA3 := bA3.frozen; have cE3 := bE3.cell; have fE3 := bE3.frozen)
        have hko := hk3.others.trans (KeepsOthers.setCell w3 ⟨w.heap.size + 1 + 1, 0, none⟩ (.slice av nv cv))
        refine ⟨hko.from _, ⟨hb3.setCell (p := ⟨w.heap.size + 1 + 1, 0, none⟩) (by simp; omega) _, fun e => (hk3.box e tyS_ne.1 tyS_ne.2).other (by omega) _, fun e => (hk3.box e (by decide) (by decide)).other (by omega) _⟩, qs, _, ?_, bL3.set _, isPs_box hps3 bL3 tyL_ne.1 tyL_ne.2, bA3.other (by omega) _, bE3.other (by omega) _, ky_t hKy (ky_t (ky_kp2 hk3 hb3) (ky_set (by omega) (by omega) _)), hKF.trans (hko.from _)⟩
        rw [List.map_append, ← List.append_assoc]
        exact hsn
    case done2 =>
      rintro xs W' hxs ⟨ps', v', hf', bL2, hps', bA2, bE2, hKy, hKF⟩
      gi_wp2
      have bS2 := hKy.2 (w.heap.size + 1 + 1 + 1) (by omega) (by omega) _ _ tyS_ne.1 tyS_ne.2 bS1
      refine ⟨hKF, hKy, ps', v', u, ?_, bL2, hps', bA2, bE2, bS2, hB1.trans hKy.1⟩
      rw [List.flatMap_append]
      simp only [List.flatMap_cons, List.flatMap_nil, List.append_nil]
      rw [hxs] at hf'
      exact hf'
    case stop2 =>
      rintro c pre' W' ⟨t', ht'⟩ ⟨rfl, hnone, bA2, bE2, hKy, hKF⟩
      gi_wp2
      refine ⟨hKF, rfl, ?_, bA2, bE2, hB1.trans hKy.1⟩
      rw [List.flatMap_append]
      simp only [List.flatMap_cons, List.flatMap_nil, List.append_nil]
      show foldW hexN [] (pre.flatMap lineW ++ flds [] (cutR x)) = none
      rw [ht', ← List.append_assoc]
      exact fold_none _ hnone
  case done =>
    rintro D xs W hD hxs ⟨ps, v, u, hf, bL1, hps, bA1, bE1, bS1, hB1⟩ hK
    rw [hxs] at hf
    have hpar := parse_some hf
    have hbd := (foldW_bd hf).1
    have hwl := (words_len l).2
    have hnl : ps.length ≤ maxLen := by
      have : (List.flatMap lineW (splN l)).length ≤ 1 + l.length := hwl
      simp only [List.length_nil] at hbd
      unfold maxLen; omega
    have cL := bL1.cell
    have HLG : Hid (Calls Tryd.prog 27 #[v] W fun e w' => e = .returned (.bool (longL ps)) ∧ Below W.heap.size W w') := long_any v ps W hps.rd hnl
    obtain ⟨av, nv, cv, rfl⟩ := hps.slice
    cases hlg : longL ps
    · rw [hlg] at HLG hpar
      gi_wp2_with (refine ⟨trivial, ?_⟩; gi_at_call 27; refine (callsIn_wide.2 HLG.out).mono ?_; rintro e w3 ⟨rfl, hb3⟩; have bL3 := box_on bL1 hb3; have bA3 := box_on bA1 hb3; have bE3 := box_on bE1 hb3; have cL3 := bL3.cell; have cA3 := bA3.cell; have fA3 := bA3.frozen; have cE3 := bE3.cell; have fE3 := bE3.frozen; have hK3 := (hb3.block D (Array.getElem?_eq_some_iff.1 hK).1).trans hK)
      have hK5 := ((KeepsOthers.setCell w3 ⟨w.heap.size, 0, none⟩ (.slice av nv cv)).trans (KeepsOthers.setCell _ ⟨w.heap.size + 1, 0, none⟩ (.int .i64 0))).same D _ hK3 rfl
      have bA5 := box_put ((bA3.set (.slice av nv cv)).other (B' := w.heap.size + 1) (by omega) (.int .i64 0)) (.deferred none) hK5 rfl
      have bE5 := box_put ((bE3.other (B' := w.heap.size) (by omega) (.slice av nv cv)).set (.int .i64 0)) (.deferred none) hK5 rfl
      have hcA := bA5.cell
      have hcE := bE5.cell
      have hpar2 : parseL hexN l = (ps, 0) := by rw [hpar]; rfl
      have hsz3 : w.heap.size ≤ w3.heap.size := by have := hB1.size; have := hb3.size; omega
      refine ⟨by simp, .inl ⟨_, _, rfl, run_takeDeferred hK5, ?_⟩⟩
      refine ⟨.tuple #[.slice av nv cv, .int .i64 0], ?_, ?_⟩
      · simp [results, Tryd.f18, go_sem, hcA, hcE]
      · rw [hpar2]
        refine ⟨_, rfl, isPs_row (isPs_box (isPs_box (hps.on hb3) bA3 tyL_ne.1 tyL_ne.2) (bE3.other (B' := w.heap.size) (by omega) _) tyE_ne.1 tyE_ne.2) (grownBy_putObj' _ D (.deferred none)) (fun r e => by cases e; exact ⟨_, hK5, rfl⟩), ?_⟩
        exact (((hB1.trans (hb3.mono hB1.size)).setCell (p := ⟨w.heap.size, 0, none⟩) (by simp) _).setCell (p := ⟨w.heap.size + 1, 0, none⟩) (by simp) _).trans (belowK_b (w := w) (Nat.le_refl _) _ D _ _ (by omega) hK5 rfl rfl)
    · rw [hlg] at HLG hpar
      gi_wp2_with (refine ⟨trivial, ?_⟩; gi_at_call 27; refine (callsIn_wide.2 HLG.out).mono ?_; rintro e w3 ⟨rfl, hb3⟩; have bL3 := box_on bL1 hb3; have bA3 := box_on bA1 hb3; have bE3 := box_on bE1 hb3; have cL3 := bL3.cell; have cA3 := bA3.cell; have fA3 := bA3.frozen; have cE3 := bE3.cell; have fE3 := bE3.frozen; have hK3 := (hb3.block D (Array.getElem?_eq_some_iff.1 hK).1).trans hK)
      have hK5 := ((KeepsOthers.setCell w3 ⟨w.heap.size, 0, none⟩ (.slice none 0 0)).trans (KeepsOthers.setCell _ ⟨w.heap.size + 1, 0, none⟩ (.int .i64 3))).same D _ hK3 rfl
      have bA5 := box_put ((bA3.set (.slice none 0 0)).other (B' := w.heap.size + 1) (by omega) (.int .i64 3)) (.deferred none) hK5 rfl
      have bE5 := box_put ((bE3.other (B' := w.heap.size) (by omega) (.slice none 0 0)).set (.int .i64 3)) (.deferred none) hK5 rfl
      have hcA := bA5.cell
      have hcE := bE5.cell
      have hpar2 : parseL hexN l = ([], 3) := by rw [hpar]; rfl
      have hsz3 : w.heap.size ≤ w3.heap.size := by have := hB1.size; have := hb3.size; omega
      refine ⟨by simp, .inl ⟨_, _, rfl, run_takeDeferred hK5, ?_⟩⟩
      refine ⟨.tuple #[.slice none 0 0, .int .i64 3], ?_, ?_⟩
      · simp [results, Tryd.f18, go_sem, hcA, hcE]
      · rw [hpar2]
        refine ⟨_, rfl, IsPs.nil _ _ _, ?_⟩
        exact (((hB1.trans (hb3.mono hB1.size)).setCell (p := ⟨w.heap.size, 0, none⟩) (by simp) _).setCell (p := ⟨w.heap.size + 1, 0, none⟩) (by simp) _).trans (belowK_b (w := w) (Nat.le_refl _) _ D _ _ (by omega) hK5 rfl rfl)
  case stop =>
    rintro D c pre W hD ⟨t, ht⟩ ⟨rfl, hnone, bA1, bE1, hB1⟩ hK
    have hpar := parse_none (hx := hexN) (l := l) (by rw [words_part ht]; exact fold_none _ hnone)
    gi_wp2
    have hcA := (box_put bA1 (.deferred none) hK rfl).cell
    have hcE := (box_put bE1 (.deferred none) hK rfl).cell
    refine ⟨by simp, .inl ⟨_, _, rfl, run_takeDeferred hK, ?_⟩⟩
    refine ⟨.tuple #[.slice none 0 0, .int .i64 1], ?_, ?_⟩
    · simp [results, Tryd.f18, go_sem, hcA, hcE]
    · rw [hpar]
      exact ⟨_, rfl, IsPs.nil _ _ _, hB1.trans (belowK_b (w := w) (Nat.le_refl _) _ D _ _ (by omega) hK rfl rfl)⟩
end Go.Proofs.YtcigceaadkjenaaDoor
