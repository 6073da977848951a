/- Layer 15: strings.FieldsFuncSeq at the program's own isBlank: what its iterator hands out. -/
import Derived.RangeFuncBox
import Derived.RangeFuncLeaves
import Derived.Shelf.Abstract
import Derived.Shelf.RegionOpen
import Derived.WalkKit
import Derived.OwnWalkIn
import Derived.TacticsInMore
import Derived.LoopNIn
import Derived.LoopIn
import Derived.Maps.AppendAt
import Derived.Lib.Hide
import Derived.Test.YtcigceaadkjenaaDoorImgStr
namespace Go.Proofs.YtcigceaadkjenaaDoor
open Go.RowKit Go.Shelf
set_option linter.unusedVariables false
set_option maxRecDepth 100000

attribute [local go_sem] Oper.semAt_some

/-- A text that is not too long. -/
abbrev Tx := { q : List UInt8 // q.length ≤ 70000 }
def encT (q : Tx) : Array Value := #[.string (bs q.1)]

/-- What a round keeps: the blocks below n₀, and two boxes of the iterator's own. -/
def Kx (n₀ B C : Nat) (t u : TypeId) (a b : Value) (W W' : World) : Prop := Below n₀ W W' ∧ (Boxed W B t a → Boxed W' B t a) ∧ (Boxed W C u b → Boxed W' C u b)
theorem kx_t {n₀ B C : Nat} {t u : TypeId} {a b : Value} {X Y Z : World} (h : Kx n₀ B C t u a b X Y) (k : Kx n₀ B C t u a b Y Z) : Kx n₀ B C t u a b X Z := ⟨h.1.trans k.1, fun e => k.2.1 (h.2.1 e), fun e => k.2.2 (h.2.2 e)⟩
theorem box_put {W : World} {B : Nat} {t : TypeId} {a : Value} (e : Boxed W B t a) {l : Nat} {o : Obj} (o' : Obj) (h : W.heap[l]? = some o) (hc : o.isCells = false) : Boxed (W.putObj l o') B t a :=
  e.kept (grownBy_putObj' W l o') (fun q => by
    obtain rfl : B = l := Option.some.inj q
    rw [show W.heap[B]? = _ from e] at h
    cases h; cases hc)
theorem kx_b {n₀ B C : Nat} {t u : TypeId} {a b : Value} {w : World} (hn : n₀ ≤ w.heap.size) (W : World) (l : Nat) (o o' : Obj) (hl : w.heap.size ≤ l) (h : W.heap[l]? = some o) (hc : o.isCells = false) (hw : o.isWalk = false) : Kx n₀ B C t u a b W (W.putObj l o') :=
  ⟨belowK_b hn W l o o' hl h hc hw, fun e => box_put e o' h hc, fun e => box_put e o' h hc⟩

set_option maxHeartbeats 400000 in
theorem fseq_in (F : Fence) (n : Nat) (hF : F.fn 34) (hro : F.round = none) (s : ByteArray) (w : World) :
    CallsIn F n Tryd.prog 34 #[.string s, .func (.func 35) #[] #[]] w fun e w' => e = .returned (.func (.func 51) #[] #[.pointer (some ⟨w.heap.size, 0, none⟩), .pointer (some ⟨w.heap.size + 1, 0, none⟩)]) ∧ w' = (w.alloc (.cells #[.string s] 9)).alloc (.cells #[.func (.func 35) #[] #[]] 74) := by
  refine callsIn_of_wp Tryd.func34 rfl hF ?_ hro
  simp only [Tryd.ntmps34, List.size_toArray, List.length_cons, List.length_nil, Nat.reduceAdd, Nat.reduceSub, Array.replicate_succ, Array.replicate_zero, List.push_toArray, List.append_toArray, List.nil_append, List.cons_append]
  gi_wp2
  go_ret
  exact ⟨by simp, rfl⟩

/-- The signs from a on ahead of k. -/
def cur (x : List UInt8) (a k : Nat) : List UInt8 := (x.drop a).take (k - a)
theorem cur_len (x : List UInt8) (a k : Nat) (h : k ≤ x.length) : (cur x a k).length = k - a := by unfold cur; simp; omega
theorem cur_none (x : List UInt8) (k K : Nat) : ([] : List UInt8) ++ (x.drop k).take K = cur x k (k + K) := by unfold cur; simp [show k + K - k = K from by omega]
theorem cur_some (x : List UInt8) (a k K : Nat) (h : a ≤ k) : cur x a k ++ (x.drop k).take K = cur x a (k + K) := by
  unfold cur
  rw [show k + K - a = (k - a) + K from by omega, List.take_add, List.drop_drop]
  congr 3
  omega
theorem cur_ext (x : List UInt8) (a k : Nat) : (bs x).extract a k = bs (cur x a k) := bs_cut x a k
theorem flds_go (x c : List UInt8) (k K : Nat) (h : ∀ d ∈ (x.drop k).take K, d ≠ 32) : flds c (x.drop k) = flds (c ++ (x.drop k).take K) (x.drop (k + K)) := by
  have := flds_run ((x.drop k).take K) c (x.drop (k + K)) h
  rw [← this]
  congr 1
  rw [← List.drop_drop]
  exact (List.take_append_drop K _).symm
theorem drop_32 (x : List UInt8) (k : Nat) (hk : k < x.length) (h : (x.drop k).headD 0 = 32) : x.drop k = 32 :: x.drop (k + 1) := by
  rw [List.drop_eq_getElem_cons hk] at h ⊢
  simp only [List.headD_cons] at h
  rw [h]

theorem abides_on {J : List Tx → World → Prop} {B : Nat} (hJ : AbidesFrom B J) {pre : List Tx} {w w' : World} (h : J pre w) (hb : Below w.heap.size w w') : J pre w' :=
  hJ pre w w' none h ⟨hb.os, hb.tape, hb.output, hb.size, fun k hk _ => hb.block k hk⟩ (fun r e => by cases e)
theorem box_on {W W' : World} {B : Nat} {t : TypeId} {a : Value} (e : Boxed W B t a) (hb : Below W.heap.size W W') : Boxed W' B t a := (hb.block B e.lt).trans e

set_option maxHeartbeats 2000000 in
theorem fld1_in (n : Nat) (hn : 3 ≤ n) (l B C : Nat) (x : List UInt8) (hx : x.length ≤ 70000) (w0 : World) (hT : U8Tab w0) (J Jx : List Tx → World → Prop)
    (hY : ∀ pre (q : Tx) W, J pre W → pre.length < x.length + 1 → YieldAt Fence.wide (n - 1) Tryd.prog l (encT q) W fun e W' =>
      (e = .returned (.bool true) ∧ J (pre ++ [q]) W' ∧ Kx w0.heap.size B C 9 74 (.string (bs x)) (.func (.func 35) #[] #[]) W W') ∨ (e = .returned (.bool false) ∧ Jx (pre ++ [q]) W'))
    (W : World) (hJ : AbidesFrom W.heap.size J) (hB : Boxed W B 9 (.string (bs x))) (hC : Boxed W C 74 (.func (.func 35) #[] #[])) (hW : Below w0.heap.size w0 W) (h0 : J [] W) :
    CallsIn Fence.wide n Tryd.prog 51 #[.func (.yield l) #[] #[], .pointer (some ⟨B, 0, none⟩), .pointer (some ⟨C, 0, none⟩)] W fun e W' => (∃ v, e = .returned v) ∧
      ((∃ ys : List Tx, ys.map (·.1) = flds [] x ∧ J ys W') ∨ (∃ pre : List Tx, (∃ t, flds [] x = pre.map (·.1) ++ t) ∧ Jx pre W')) := by
  have hsz : (bs x).size = x.length := bs_size x
  have hd0 : 1 ≤ n := by omega
  have hd1 : 1 ≤ n - 1 := by omega
  refine callsIn_of_wp Tryd.func51 rfl trivial ?_ rfl
  simp only [Tryd.ntmps51, List.size_toArray, List.length_cons, List.length_nil, Nat.reduceAdd, Nat.reduceSub, Array.replicate_succ, Array.replicate_zero, List.push_toArray, List.append_toArray, List.nil_append, List.cons_append]
  gi_wp2
  gi_loopw [4, 5] (fun st i wr => ∃ (k : Nat) (z : Int) (pre : List Tx), k ≤ x.length ∧ i = .int .i64 (k : Int) ∧ st = .int .i64 z ∧ ((z = -1 ∧ Hid (flds [] x = pre.map (·.1) ++ flds [] (x.drop k) ∧ pre.length ≤ k)) ∨ ∃ a : Nat, z = (a : Int) ∧ a < k ∧ Hid (flds [] x = pre.map (·.1) ++ flds (cur x a k) (x.drop k) ∧ pre.length ≤ a)) ∧ Hid (J pre wr) ∧ Hid (Below w0.heap.size w0 wr) ∧ Boxed wr B 9 (.string (bs x)) ∧ Boxed wr C 74 (.func (.func 35) #[] #[]))
    (fun _ i _ => x.length - (intOf i).toNat)
  case atStart => exact ⟨0, -1, [], Nat.zero_le _, rfl, rfl, .inl ⟨rfl, by simp [Hid]⟩, h0, hW, hB, hC⟩
  case round =>
    obtain ⟨k, z, pre, hk, rfl, rfl, hz, HJ, HW, hB1, hC1⟩ := hrel
    have cB := hB1.cell
    have cC := hC1.cell
    by_cases hlt : k < x.length
    · have hne : 0 < (x.drop k).length := by simp; omega
      obtain ⟨r, K, hr, hK1, hK2, hcase, hdec⟩ := dec_any (x.drop k) w0 hne hT
      have hK3 : k + K ≤ x.length := by simp at hK2; omega
      have HD : Hid (∀ V, Below w0.heap.size w0 V → Calls Tryd.prog 52 #[.string ((bs x).extract k x.length)] V fun e w' => e = .returned (.tuple #[.int .i32 (r : Int), .int .i64 (K : Int)]) ∧ Below V.heap.size V w') := fun V hV => by
        have e : (bs x).extract k x.length = bs (x.drop k) := by rw [bs_cut, List.take_of_length_le (by simp)]
        rw [e]
        exact hdec V hV
      have HBk := fun V => blank_any r V hr
      clear hdec hr hK2
      rcases hcase with ⟨rfl, rfl, h32⟩ | ⟨hr32, hrun⟩
      · -- a blank
        have HBL : Hid (∀ V : World, Calls Tryd.prog 35 #[.int .i32 (32 : Int)] V fun e w' => e = .returned (.bool true) ∧ w' = V) := HBk
        have hdr := Lib.hid (drop_32 x k hlt h32)
        clear HBk h32
        rcases hz with ⟨rfl, HZ⟩ | ⟨a, rfl, hak, HZ⟩
        · have HN : Hid (flds [] x = pre.map (·.1) ++ flds [] (x.drop (k + 1)) ∧ pre.length ≤ k + 1) := by
            refine ⟨?_, by have := HZ.out.2; omega⟩
            rw [HZ.out.1, hdr.out, flds_sp0]
          gi_wp2_with (first
            | (refine ⟨trivial, ?_⟩; gi_at_call 52; refine (callsIn_wide.2 (HD.out _ HW.out)).mono ?_; rintro e w1 ⟨rfl, hb1⟩; have hB2 := box_on hB1 hb1; have hC2 := box_on hC1 hb1; have cB2 := hB2.cell; have cC2 := hC2.cell)
            | (refine ⟨trivial, ?_⟩; gi_at_call 35; refine (callsIn_wide.2 (HBL.out _)).mono ?_; rintro e w2 ⟨rfl, hw⟩; subst hw))
          go_roundw
          case rel => exact ⟨k + 1, -1, pre, hK3, by go_num, rfl, .inl ⟨rfl, HN⟩, abides_on hJ HJ.out hb1, HW.out.trans (hb1.mono HW.out.size), hB2, hC2⟩
          case measure => simp [intOf]; omega
        · have hql : (cur x a k).length ≤ 70000 := by rw [cur_len x a k hk]; omega
          have hcne : cur x a k ≠ [] := fun e => by have := cur_len x a k hk; rw [e] at this; simp at this; omega
          have hpl : pre.length < x.length + 1 := by have := HZ.out.2; omega
          have HN : Hid (flds [] x = (pre ++ [(⟨cur x a k, hql⟩ : Tx)]).map (·.1) ++ flds [] (x.drop (k + 1)) ∧ (pre ++ [(⟨cur x a k, hql⟩ : Tx)]).length ≤ k + 1) := by
            refine ⟨?_, by have := HZ.out.2; simp; omega⟩
            rw [HZ.out.1, hdr.out, flds_sp _ _ hcne]
            simp
          have hye : encT (⟨cur x a k, hql⟩ : Tx) = #[.string ((bs x).extract a k)] := by rw [cur_ext]; rfl
          clear hdr
          gi_wp2_with (first
            | (refine ⟨trivial, ?_⟩; gi_at_call 52; refine (callsIn_wide.2 (HD.out _ HW.out)).mono ?_; rintro e w1 ⟨rfl, hb1⟩; have hB2 := box_on hB1 hb1; have hC2 := box_on hC1 hb1; have cB2 := hB2.cell; have cC2 := hC2.cell; have HW2 := Lib.hid (HW.out.trans (hb1.mono HW.out.size)); obtain ⟨fn, tmps, assign, body, hy, hR⟩ := hY pre ⟨cur x a k, hql⟩ w1 (abides_on hJ HJ.out hb1) hpl; have HR := Lib.hid hR; clear hR; rw [hye] at hy)
            | (refine ⟨trivial, ?_⟩; gi_at_call 35; refine (callsIn_wide.2 (HBL.out _)).mono ?_; rintro e w2 ⟨rfl, hw⟩; subst hw))
          refine HR.out.mono ?_
          rintro e W3 (⟨rfl, hJ3, hk3⟩ | ⟨rfl, hJx3⟩)
          · clear HR hy hY cB cC cB2 cC2
            gi_wp2
            go_roundw
            case rel => exact ⟨k + 1, -1, _, hK3, by go_num, rfl, .inl ⟨rfl, HN⟩, hJ3, HW2.out.trans hk3.1, hk3.2.1 hB2, hk3.2.2 hC2⟩
            case measure => simp [intOf]; omega
          · clear HR hy hY cB cC cB2 cC2
            gi_wp2
            refine bodyPost_ret (results_none rfl _ _ _) rfl ?_
            exact ⟨⟨_, rfl⟩, .inr ⟨_, ⟨_, HN.out.1⟩, hJx3⟩⟩
      · -- a sign of a word
        have HBL : Hid (∀ V : World, Calls Tryd.prog 35 #[.int .i32 (r : Int)] V fun e w' => e = .returned (.bool false) ∧ w' = V) := fun V => by
          have := HBk V
          rwa [decide_eq_false hr32] at this
        have HGO := Lib.hid (fun c => flds_go x c k K hrun)
        clear HBk hrun hr32
        rcases hz with ⟨rfl, HZ⟩ | ⟨a, rfl, hak, HZ⟩
        · have HN : Hid (flds [] x = pre.map (·.1) ++ flds (cur x k (k + K)) (x.drop (k + K)) ∧ pre.length ≤ k) := by
            refine ⟨?_, HZ.out.2⟩
            rw [HZ.out.1, HGO.out, cur_none]
          clear HGO
          gi_wp2_with (first
            | (refine ⟨trivial, ?_⟩; gi_at_call 52; refine (callsIn_wide.2 (HD.out _ HW.out)).mono ?_; rintro e w1 ⟨rfl, hb1⟩; have hB2 := box_on hB1 hb1; have hC2 := box_on hC1 hb1; have cB2 := hB2.cell; have cC2 := hC2.cell)
            | (refine ⟨trivial, ?_⟩; gi_at_call 35; refine (callsIn_wide.2 (HBL.out _)).mono ?_; rintro e w2 ⟨rfl, hw⟩; subst hw))
          go_roundw
          case rel => exact ⟨k + K, (k : Int), pre, hK3, by go_num, rfl, .inr ⟨k, rfl, by omega, HN⟩, abides_on hJ HJ.out hb1, HW.out.trans (hb1.mono HW.out.size), hB2, hC2⟩
          case measure => simp [intOf]; omega
        · have HN : Hid (flds [] x = pre.map (·.1) ++ flds (cur x a (k + K)) (x.drop (k + K)) ∧ pre.length ≤ a) := by
            refine ⟨?_, HZ.out.2⟩
            rw [HZ.out.1, HGO.out, cur_some x a k K (by omega)]
          clear HGO
          gi_wp2_with (first
            | (refine ⟨trivial, ?_⟩; gi_at_call 52; refine (callsIn_wide.2 (HD.out _ HW.out)).mono ?_; rintro e w1 ⟨rfl, hb1⟩; have hB2 := box_on hB1 hb1; have hC2 := box_on hC1 hb1; have cB2 := hB2.cell; have cC2 := hC2.cell)
            | (refine ⟨trivial, ?_⟩; gi_at_call 35; refine (callsIn_wide.2 (HBL.out _)).mono ?_; rintro e w2 ⟨rfl, hw⟩; subst hw))
          go_roundw
          case rel => exact ⟨k + K, (a : Int), pre, hK3, by go_num, rfl, .inr ⟨a, rfl, by omega, HN⟩, abides_on hJ HJ.out hb1, HW.out.trans (hb1.mono HW.out.size), hB2, hC2⟩
          case measure => simp [intOf]; omega
    · obtain rfl : k = x.length := by omega
      rcases hz with ⟨rfl, HZ⟩ | ⟨a, rfl, hak, HZ⟩
      · have HN : Hid (pre.map (·.1) = flds [] x) := by
          show _ = _
          rw [HZ.out.1, List.drop_length]
          simp [flds]
        gi_wp2
        go_end0
        exact ⟨⟨_, rfl⟩, .inl ⟨pre, HN, HJ.out⟩⟩
      · have hql : (cur x a x.length).length ≤ 70000 := by rw [cur_len x a _ (Nat.le_refl _)]; omega
        have hcne : cur x a x.length ≠ [] := fun e => by have := cur_len x a _ (Nat.le_refl _); rw [e] at this; simp at this; omega
        have hpl : pre.length < x.length + 1 := by have := HZ.out.2; omega
        have HN : Hid (flds [] x = (pre ++ [(⟨cur x a x.length, hql⟩ : Tx)]).map (·.1)) := by
          show _ = _
          rw [HZ.out.1, List.drop_length, flds, if_neg hcne]
          simp
        have hye : encT (⟨cur x a x.length, hql⟩ : Tx) = #[.string ((bs x).extract a x.length)] := by rw [cur_ext]; rfl
        obtain ⟨fn, tmps, assign, body, hy, hR⟩ := hY pre ⟨cur x a x.length, hql⟩ wr HJ.out hpl
        have HR := Lib.hid hR
        clear hR
        rw [hye] at hy
        gi_wp2
        refine HR.out.mono ?_
        rintro e W3 (⟨rfl, hJ3, hk3⟩ | ⟨rfl, hJx3⟩)
        · clear HR hy hY cB cC
          gi_wp2
          go_end0
          exact ⟨⟨_, rfl⟩, .inl ⟨_, HN.out.symm, hJ3⟩⟩
        · clear HR hy hY cB cC
          gi_wp2
          go_end0
          exact ⟨⟨_, rfl⟩, .inr ⟨_, ⟨[], by rw [HN.out]; simp⟩, hJx3⟩⟩

/-- What the iterator's value promises. -/
theorem fld_stops (n : Nat) (hn : 3 ≤ n) (B C : Nat) (x : List UInt8) (hx : x.length ≤ 70000) (w0 w : World) (hT : U8Tab w0) (hB : Boxed w B 9 (.string (bs x))) (hC : Boxed w C 74 (.func (.func 35) #[] #[])) (hW : Below w0.heap.size w0 w) :
    SeqStopsK Fence.wide n Tryd.prog 51 #[.pointer (some ⟨B, 0, none⟩), .pointer (some ⟨C, 0, none⟩)] encT (Kx w0.heap.size B C 9 74 (.string (bs x)) (.func (.func 35) #[] #[])) (fun ys => ys.map (·.1) = flds [] x) (fun pre => ∃ t, flds [] x = pre.map (·.1) ++ t) (x.length + 1) w := fun l J Jx W hWW hJ _ hY h0 =>
  fld1_in n hn l B C x hx w0 hT J Jx hY W hJ (box_on hB hWW) (box_on hC hWW) (hW.trans (hWW.mono hW.size)) h0
end Go.Proofs.YtcigceaadkjenaaDoor
