/- Layer 15: strings.SplitSeq at a line's end: what its iterator hands out; between two rounds it writes a box of its own. -/
import Derived.Test.YtcigceaadkjenaaDoorImgFld
import Derived.Test.YtcigceaadkjenaaDoorRangeBox
namespace Go.Proofs.YtcigceaadkjenaaDoor
open Go.RowKit Go.Shelf
set_option linter.unusedVariables false
set_option maxRecDepth 100000

attribute [local go_sem] Oper.semAt_some

def encL (q : List UInt8) : Array Value := #[.string (bs q)]

/-- What a round keeps: the blocks below n₀, and the iterator's three boxes. -/
def Ky (n₀ M : Nat) (W W' : World) : Prop := Below n₀ W W' ∧ ∀ k, M ≤ k → k < M + 3 → ∀ (t : TypeId) (v : Value), t ≠ 5 → t ≠ 51 → Boxed W k t v → Boxed W' k t v
theorem ky_t {n₀ M : Nat} {X Y Z : World} (h : Ky n₀ M X Y) (k : Ky n₀ M Y Z) : Ky n₀ M X Z := ⟨h.1.trans k.1, fun j a b t v p q e => k.2 j a b t v p q (h.2 j a b t v p q e)⟩
theorem ky_b {n₀ M : Nat} {w : World} (hn : n₀ ≤ w.heap.size) (W : World) (l : Nat) (o o' : Obj) (hl : w.heap.size ≤ l) (h : W.heap[l]? = some o) (hc : o.isCells = false) (hw : o.isWalk = false) : Ky n₀ M W (W.putObj l o') :=
  ⟨belowK_b hn W l o o' hl h hc hw, fun k _ _ t v _ _ e => box_put e o' h hc⟩

set_option maxHeartbeats 400000 in
theorem sseq1_in (F : Fence) (n : Nat) (hF : F.fn 49) (hro : F.round = none) (s : ByteArray) (w : World) :
    CallsIn F n Tryd.prog 49 #[.string s, .string ⟨#[10]⟩, .int .i64 0] w fun e w' => e = .returned (.func (.func 61) #[] #[.pointer (some ⟨w.heap.size + 1, 0, none⟩), .pointer (some ⟨w.heap.size, 0, none⟩), .pointer (some ⟨w.heap.size + 2, 0, none⟩)]) ∧ w' = ((w.alloc (.cells #[.string s] 9)).alloc (.cells #[.string ⟨#[10]⟩] 9)).alloc (.cells #[.int .i64 0] 3) := by
  refine callsIn_of_wp Tryd.func49 rfl hF ?_ hro
  simp only [Tryd.ntmps49, List.size_toArray, List.length_cons, List.length_nil, Nat.reduceAdd, Nat.reduceSub, Array.replicate_succ, Array.replicate_zero, List.push_toArray, List.append_toArray, List.nil_append, List.cons_append]
  gi_wp2
  go_ret
  exact ⟨by simp, rfl⟩

set_option maxHeartbeats 400000 in
theorem sseq_in (F : Fence) (n : Nat) (hn : 1 ≤ n) (hF : F.fn 32) (hF1 : F.fn 49) (hro : F.round = none) (s : ByteArray) (w : World) :
    CallsIn F n Tryd.prog 32 #[.string s, .string ⟨#[10]⟩] w fun e w' => e = .returned (.func (.func 61) #[] #[.pointer (some ⟨w.heap.size + 1, 0, none⟩), .pointer (some ⟨w.heap.size, 0, none⟩), .pointer (some ⟨w.heap.size + 2, 0, none⟩)]) ∧ w' = ((w.alloc (.cells #[.string s] 9)).alloc (.cells #[.string ⟨#[10]⟩] 9)).alloc (.cells #[.int .i64 0] 3) := by
  refine callsIn_of_wp Tryd.func32 rfl hF ?_ hro
  simp only [Tryd.ntmps32, List.size_toArray, List.length_cons, List.length_nil, Nat.reduceAdd, Nat.reduceSub, Array.replicate_succ, Array.replicate_zero, List.push_toArray, List.append_toArray, List.nil_append, List.cons_append]
  gi_wp2_with (gi_at_call 49; refine (sseq1_in F (n - 1) hF1 hro _ _).mono ?_; rintro e w' ⟨rfl, rfl⟩)
  go_ret
  exact ⟨rfl, rfl⟩

/-- How much is left in the iterator's box. -/
def leftIn (w : World) (M : Nat) : Nat := match w.cell? ⟨M, 0, none⟩ with
  | some (.string s) => s.size
  | _ => 0
theorem leftIn_eq {w : World} {M : Nat} {t : TypeId} {s : ByteArray} (h : Boxed w M t (.string s)) : leftIn w M = s.size := by unfold leftIn; rw [h.cell]

theorem abidesL_on {J : List (List UInt8) → World → Prop} {B : Nat} (hJ : AbidesFrom B J) {pre : List (List UInt8)} {w w' : World} (h : J pre w) (hb : Below w.heap.size w w') : J pre w' :=
  hJ pre w w' none h ⟨hb.os, hb.tape, hb.output, hb.size, fun k hk _ => hb.block k hk⟩ (fun r e => by cases e)

set_option maxHeartbeats 2000000 in
theorem spl1_in (n : Nat) (hn : 3 ≤ n) (l M n₀ : Nat) (x : List UInt8) (hx : x.length ≤ 70000) (J Jx : List (List UInt8) → World → Prop) (hn₀ : n₀ ≤ M)
    (hY : ∀ pre (q : List UInt8) W, J pre W → (∃ t, splN x = (pre ++ [q]) ++ t) → YieldAt Fence.wide (n - 1) Tryd.prog l (encL q) W fun e W' =>
      (e = .returned (.bool true) ∧ J (pre ++ [q]) W' ∧ Ky n₀ M W W') ∨ (e = .returned (.bool false) ∧ Jx (pre ++ [q]) W'))
    (W : World) (hJ : AbidesFrom W.heap.size J) (hJM : Minds M J) (hS : Boxed W M 9 (.string (bs x))) (hP : Boxed W (M + 1) 9 (.string ⟨#[10]⟩)) (hV : Boxed W (M + 2) 3 (.int .i64 0)) (h0 : J [] W) :
    CallsIn Fence.wide n Tryd.prog 61 #[.func (.yield l) #[] #[], .pointer (some ⟨M + 1, 0, none⟩), .pointer (some ⟨M, 0, none⟩), .pointer (some ⟨M + 2, 0, none⟩)] W fun e W' => (∃ v, e = .returned v) ∧
      ((∃ ys, ys = splN x ∧ J ys W') ∨ (∃ pre, (∃ t, splN x = pre ++ t) ∧ Jx pre W')) := by
  have hd0 : 1 ≤ n := by omega
  have hd1 : 1 ≤ n - 1 := by omega
  have cP := hP.cell
  have h10 : (ByteArray.mk #[10]).size = 1 := rfl
  refine callsIn_of_wp Tryd.func61 rfl trivial ?_ rfl
  simp only [Tryd.ntmps61, List.size_toArray, List.length_cons, List.length_nil, Nat.reduceAdd, Nat.reduceSub, Array.replicate_succ, Array.replicate_zero, List.push_toArray, List.append_toArray, List.nil_append, List.cons_append]
  gi_wp2
  gi_loopw [7] (fun i wr => ∃ (pre : List (List UInt8)) (r : List UInt8), r.length ≤ 70000 ∧ Hid (splN x = pre ++ splN r) ∧ Hid (J pre wr) ∧ Boxed wr M 9 (.string (bs r)) ∧ Boxed wr (M + 1) 9 (.string ⟨#[10]⟩) ∧ Boxed wr (M + 2) 3 (.int .i64 0))
    (fun _ wr => leftIn wr M)
  case atStart => exact ⟨[], x, hx, by simp [Hid], h0, hS, hP, hV⟩
  case round =>
    obtain ⟨pre, r, hrl, HE, HJ, hS1, hP1, hV1⟩ := hrel
    have cS := hS1.cell
    have cP1 := hP1.cell
    have cV := hV1.cell
    have hsz : (bs r).size = r.length := bs_size r
    have HI : Hid (∀ V : World, Calls Tryd.prog 62 #[.string (bs r), .string ⟨#[10]⟩] V fun e w' => e = .returned (.int .i64 (Lib.indexByte r 10)) ∧ w' = V) := fun V => iidx_any r V
    rcases idx_spl r with ⟨hi, hsp⟩ | ⟨i, hi, hlt, hsp⟩
    · rw [hi] at HI
      have HN : Hid (splN x = (pre ++ [r]) ++ []) := by
        show _ = _
        rw [HE.out, hsp]; simp
      obtain ⟨fn, tmps, assign, body, hy, hR⟩ := hY pre r wr HJ.out ⟨_, HN.out⟩
      have HR := Lib.hid hR
      clear hR hi hsp
      unfold encL at hy
      gi_wp2_with (refine ⟨trivial, ?_⟩; gi_at_call 62; refine (callsIn_wide.2 (HI.out _)).mono ?_; rintro e w2 ⟨rfl, hw⟩; subst hw)
      refine HR.out.mono ?_
      rintro e W3 (⟨rfl, hJ3, hk3⟩ | ⟨rfl, hJx3⟩)
      · clear HR hy hY cP cS cP1 cV
        gi_wp2
        go_end0
        exact ⟨⟨_, rfl⟩, .inl ⟨_, by rw [HN.out]; simp, hJ3⟩⟩
      · clear HR hy hY cP cS cP1 cV
        gi_wp2
        go_end0
        exact ⟨⟨_, rfl⟩, .inr ⟨_, ⟨[], HN.out⟩, hJx3⟩⟩
    · rw [hi] at HI
      have HN : Hid (splN x = (pre ++ [r.take i]) ++ splN (r.drop (i + 1))) := by
        show _ = _
        rw [HE.out, hsp]; simp
      have hye : encL (r.take i) = #[.string ((bs r).extract 0 i)] := by
        have := bs_cut r 0 i
        rw [this]; simp [encL]
      obtain ⟨fn, tmps, assign, body, hy, hR⟩ := hY pre (r.take i) wr HJ.out ⟨_, HN.out⟩
      have HR := Lib.hid hR
      clear hR hi hsp
      rw [hye] at hy
      gi_wp2_with (refine ⟨trivial, ?_⟩; gi_at_call 62; refine (callsIn_wide.2 (HI.out _)).mono ?_; rintro e w2 ⟨rfl, hw⟩; subst hw)
      refine HR.out.mono ?_
      rintro e W3 (⟨rfl, hJ3, hk3⟩ | ⟨rfl, hJx3⟩)
      · have hS3 := hk3.2 M (by omega) (by omega) _ _ (by decide) (by decide) hS1
        have hP3 := hk3.2 (M + 1) (by omega) (by omega) _ _ (by decide) (by decide) hP1
        have hV3 := hk3.2 (M + 2) (by omega) (by omega) _ _ (by decide) (by decide) hV1
        clear HR hy hY cP cS cP1 cV HI
        have cS := hS3.cell
        have cP := hP3.cell
        have fS := hS3.frozen
        gi_wp2
        have hex : (bs r).extract (i + 1) r.length = bs (r.drop (i + 1)) := by rw [bs_cut, List.take_of_length_le (by simp)]
        rw [hex]
        have hSn := hS3.set (.string (bs (r.drop (i + 1))))
        go_roundw
        case rel => exact ⟨_, r.drop (i + 1), by simp; omega, HN, hJM _ _ _ hJ3, hSn, hP3.other (by omega) _, hV3.other (by omega) _⟩
        case measure =>
          rw [leftIn_eq hSn, leftIn_eq hS1, bs_size, bs_size]
          simp
          omega
      · clear HR hy hY cP cS cP1 cV
        gi_wp2
        refine bodyPost_ret (results_none rfl _ _ _) rfl ?_
        exact ⟨⟨_, rfl⟩, .inr ⟨_, ⟨_, HN.out⟩, hJx3⟩⟩

theorem spl_stops (n : Nat) (hn : 3 ≤ n) (M n₀ : Nat) (x : List UInt8) (hx : x.length ≤ 70000) (hn₀ : n₀ ≤ M) (w : World) (hS : Boxed w M 9 (.string (bs x))) (hP : Boxed w (M + 1) 9 (.string ⟨#[10]⟩)) (hV : Boxed w (M + 2) 3 (.int .i64 0)) :
    StopsBox Fence.wide n Tryd.prog 61 #[.pointer (some ⟨M + 1, 0, none⟩), .pointer (some ⟨M, 0, none⟩), .pointer (some ⟨M + 2, 0, none⟩)] encL M (Ky n₀ M) (fun pre => ∃ t, splN x = pre ++ t) (fun ys => ys = splN x) (fun pre => ∃ t, splN x = pre ++ t) w := fun l J Jx W hWW hJ hJM hY h0 =>
  spl1_in n hn l M n₀ x hx J Jx hn₀ hY W hJ hJM (box_on hS hWW) (box_on hP hWW) (box_on hV hWW) h0
end Go.Proofs.YtcigceaadkjenaaDoor
